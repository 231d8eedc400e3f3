import Derived.Test.YtammnaafdhhjaaaGreatJB2
import Derived.Test.YtammnaafdhhjaaaGreatJF3
set_option maxHeartbeats 16000000
set_option maxRecDepth 100000
namespace Go.Proofs.YtammnaafdhhjaaaGreat
open Go.RowKit Go.Proofs.Tryz
theorem tS (s n:Int)(w:World):
  Calls prog 178 #[.agg #[.int .i64 s,.int .i64 n]] w fun e w'=>e=.returned (.bool (pA s n))/\w.grownBy w' none:=by
 have hsame:Hid (pA s n=(decide (0<=s)&&decide (s<=1)&&decide (1<=n)&&decide (n<=65535))):=by
  show _=_
  unfold pA
  have:(s==0 || s==1)=(decide (0<=s)&&decide (s<=1)):=by rw[Bool.eq_iff_iff];simp;omega
  rw[this]
 go_enter func178,ntmps178
 go_wp2
 all_goals (go_ret;refine ⟨aM ?_,World.grownBy_alloc _ _ _⟩;rw[hsame.out])
 all_goals (first | (simp[*];done) | (simp;omega))
theorem gO (n k:Int)(w:World):
  Calls prog 179 #[.int .i64 n,.int .i64 k] w fun e w'=>e=.returned (.bool (decide (k<=n)&&decide (n<=65535)))/\w'=w:=by
 go_enter func179,ntmps179
 go_wp2
 all_goals (go_ret;refine ⟨aM ?_,rfl⟩)
 all_goals (first | (simp[*];done) | (simp;omega))
theorem bJ (i:It)(w:World):
  Calls prog 177 #[.agg #[.int .i64 i.sh,.int .i64 i.nu,.float .f32 i.pl,.float .f32 i.sp]] w fun e w'=>e=.returned (.bool (eF i))/\w.grownBy w' none:=by
 go_enter func177,ntmps177
 go_wp2_with fail
 refine (tS i.sh i.nu _).mono ?_
 rintro e w1 ⟨rfl,g1⟩
 have c1:=gC g1 w.heap.size 2 (.float .f32 i.pl)
 have c2:=gC g1 w.heap.size 3 (.float .f32 i.sp)
 have G:=(World.grownBy_alloc w (.cells #[.int .i64 i.sh,.int .i64 i.nu,.float .f32 i.pl,.float .f32 i.sp] 75) none).trans g1
 go_wp2_with (first | (go_at_call 95;refine (jV _ _).mono ?_;rintro e w' ⟨rfl,rfl⟩))
 all_goals (go_ret;refine ⟨aM ?_,G⟩)
 all_goals (simp[eF, *])
def qH (i:It)(lets:Bool):Bool:=(i.pl==0)&&(i.sp==0)&&(lets || ((i.sh==0)&&(i.nu==0)))
theorem bF (i:It)(lets:Bool)(w:World)(hp:i.pl<4294967296)(hs:i.sp<4294967296)(fp:bB i.pl=true)(fs:bB i.sp=true):
  Calls prog 176 #[.agg #[.int .i64 i.sh,.int .i64 i.nu,.float .f32 i.pl,.float .f32 i.sp],.bool lets] w fun e w'=>e=.returned (.bool (qH i lets))/\w.grownBy w' none:=by
 obtain ⟨sh,nu,pl,sp⟩:=i
 simp only at hp hs fp fs ⊢
 by_cases h1:sh=0
 ·by_cases h2:nu=0
  ·subst h1 h2
   cases lets
   all_goals
    go_enter func176,ntmps176
    go_wp2_with (first | (go_at_call 201;refine (hX _ (by assumption) (by assumption) _).mono ?_;rintro e w' ⟨rfl,rfl⟩))
    all_goals (go_ret;refine ⟨aM ?_,World.grownBy_alloc _ _ _⟩)
    all_goals (first | (simp[qH, *];done) | (simp[qH, *];exact nX _) | (simp[qH];omega))
  ·subst h1
   cases lets
   all_goals
    go_enter func176,ntmps176
    go_wp2_with (first | (go_at_call 201;refine (hX _ (by assumption) (by assumption) _).mono ?_;rintro e w' ⟨rfl,rfl⟩))
    all_goals (go_ret;refine ⟨aM ?_,World.grownBy_alloc _ _ _⟩)
    all_goals (first | (simp[qH, *];done) | (simp[qH, *];exact nX _) | (simp[qH];omega))
 ·cases lets
  all_goals
   go_enter func176,ntmps176
   go_wp2_with (first | (go_at_call 201;refine (hX _ (by assumption) (by assumption) _).mono ?_;rintro e w' ⟨rfl,rfl⟩))
   all_goals (go_ret;refine ⟨aM ?_,World.grownBy_alloc _ _ _⟩)
   all_goals (first | (simp[qH, *];done) | (simp[qH, *];exact nX _) | (simp[qH];omega))
theorem aCJ (a b c d:Int)(_h1:0<=a)(_h2:a<=1)(h3:1<=b)(h4:b<=65535)(_k1:0<=c)(_k2:c<=1)(k3:1<=d)(k4:d<=65535):decide (a * 65536+b<c * 65536+d)=decide (fO a b c d<0):=by
 rcases Int.lt_trichotomy a c with h | h | h
 ·have e:fO a b c d=-1:=by simp[fO,orI,nY,h]
  rw[e,decide_eq_true (by omega),decide_eq_true (by omega)]
 ·subst h
  have e:fO a b a d=nY b d:=by simp[fO,orI,nY]
  rw[e]
  unfold nY
  rw[Bool.eq_iff_iff]
  simp only[decide_eq_true_eq]
  split
  ·omega
  ·split<;>omega
 ·have e:fO a b c d=1:=by
   have h':¬a<c:=by omega
   simp[fO,orI,nY,h,h']
  rw[e,decide_eq_false (by omega),decide_eq_false (by omega)]
theorem tT (a b c d:Int)(w:World)(h1:0<=a)(h2:a<=1)(h3:1<=b)(h4:b<=65535)(k1:0<=c)(k2:c<=1)(k3:1<=d)(k4:d<=65535):
  Calls prog 174 #[.agg #[.int .i64 a,.int .i64 b],.agg #[.int .i64 c,.int .i64 d]] w fun e w'=>e=.returned (.bool (decide (fO a b c d<0)))/\w.grownBy w' none:=by
 have hs:=Hid.mk' (aCJ a b c d h1 h2 h3 h4 k1 k2 k3 k4)
 go_enter func174,ntmps174
 go_wp2
 go_ret
 exact ⟨aM hs.out,aG (World.grownBy_alloc _ _ _) _⟩
theorem jE (n:Int)(bs:Nat)(w:World)(h0:0<=n)(h1:n<=4294967295)(hb:bs<=4)(p0 p1 p2 p3:Addr)(v0 v1 v2 v3:Value)(h:w.cell? p0=some v0/\w.cell? p1=some v1/\w.cell? p2=some v2/\w.cell? p3=some v3):
  Calls prog 145 #[.int .i64 n,.int .i64 (bs:Int)] w fun e w'=>e=.returned (.string (S (gF bs n)))/\w.grownBy w' none/\w'.cell? p0=some v0/\w'.cell? p1=some v1/\w'.cell? p2=some v2/\w'.cell? p3=some v3:=by
 refine (dA n bs w h0 h1 hb).mono ?_
 rintro e w' ⟨he,g⟩
 exact ⟨he,g,g.cell h.1 (by simp),g.cell h.2.1 (by simp),g.cell h.2.2.1 (by simp),g.cell h.2.2.2 (by simp)⟩
theorem aJE (n:Int)(w:World)(h0:0<=n)(h1:n<=4294967295)(p0 p1 p2 p3:Addr)(v0 v1 v2 v3:Value)(h:w.cell? p0=some v0/\w.cell? p1=some v1/\w.cell? p2=some v2/\w.cell? p3=some v3):
  Calls prog 145 #[.int .i64 n,.int .i64 1] w fun e w'=>e=.returned (.string (S (gF 1 n)))/\w.grownBy w' none/\w'.cell? p0=some v0/\w'.cell? p1=some v1/\w'.cell? p2=some v2/\w'.cell? p3=some v3:=jE n 1 w h0 h1 (by omega) p0 p1 p2 p3 v0 v1 v2 v3 h
theorem aJF (n:Int)(w:World)(h0:0<=n)(h1:n<=4294967295)(p0 p1 p2 p3:Addr)(v0 v1 v2 v3:Value)(h:w.cell? p0=some v0/\w.cell? p1=some v1/\w.cell? p2=some v2/\w.cell? p3=some v3):
  Calls prog 145 #[.int .i64 n,.int .i64 2] w fun e w'=>e=.returned (.string (S (gF 2 n)))/\w.grownBy w' none/\w'.cell? p0=some v0/\w'.cell? p1=some v1/\w'.cell? p2=some v2/\w'.cell? p3=some v3:=jE n 2 w h0 h1 (by omega) p0 p1 p2 p3 v0 v1 v2 v3 h
theorem aJG (n:Int)(w:World)(h0:0<=n)(h1:n<=4294967295)(p0 p1 p2 p3:Addr)(v0 v1 v2 v3:Value)(h:w.cell? p0=some v0/\w.cell? p1=some v1/\w.cell? p2=some v2/\w.cell? p3=some v3):
  Calls prog 145 #[.int .i64 n,.int .i64 4] w fun e w'=>e=.returned (.string (S (gF 4 n)))/\w.grownBy w' none/\w'.cell? p0=some v0/\w'.cell? p1=some v1/\w'.cell? p2=some v2/\w'.cell? p3=some v3:=jE n 4 w h0 h1 (by omega) p0 p1 p2 p3 v0 v1 v2 v3 h
theorem aAr (i:It)(h:ItOk i):gF 1 i.sh++(gF 2 i.nu++(gF 4 i.pl++gF 4 i.sp))=gZ i:=by
 rw[aHh _ h.a h.b,pG _ h.c h.d,aJz _ h.p,aJz _ h.s]
 simp[gZ]
theorem jW (i:It)(w:World)(hk:ItOk i)(fp:bB i.pl=true)(fs:bB i.sp=true):
  Calls prog 181 #[.agg #[.int .i64 i.sh,.int .i64 i.nu,.float .f32 i.pl,.float .f32 i.sp]] w fun e w'=>e=.returned (.string (S (gZ i)))/\w.grownBy w' none:=by
 have hb:=Hid.mk' (aAr i hk)
 have q0:=hk.a
 have q1:=hk.b
 have q2:=hk.c
 have q3:=hk.d
 have q4:=hk.p
 have q5:=hk.s
 have hap:=kJ
 have hsz:=aQ
 have hln:=eX
 go_enter func181,ntmps181
 go_wp2_with fail
 go_region_held3 (fun w'=>w'.cell? ⟨w.heap.size,0,none⟩=some (.int .i64 i.sh)/\w'.cell? ⟨w.heap.size,1,none⟩=some (.int .i64 i.nu)/\w'.cell? ⟨w.heap.size,2,none⟩=some (.float .f32 i.pl)/\w'.cell? ⟨w.heap.size,3,none⟩=some (.float .f32 i.sp)) (go_keep)
  (first | (go_at_call_of 201 (Value.float FloatKind.f32 i.pl);refine (hX i.pl q4 fp _).mono ?_;rintro e w2 ⟨rfl,rfl⟩) | (go_at_call_of 201 (Value.float FloatKind.f32 i.sp);refine (hX i.sp q5 fs _).mono ?_;rintro e w2 ⟨rfl,rfl⟩) | (go_at_call_of 145 (Value.int IntKind.i64 i.sh);refine (aJE i.sh _ q0 (by omega) _ _ _ _ _ _ _ _ (by assumption)).mono ?_;rintro e wa ⟨rfl,ga,ka⟩) | (go_at_call_of 145 (Value.int IntKind.i64 i.nu);refine (aJF i.nu _ q2 (by omega) _ _ _ _ _ _ _ _ (by assumption)).mono ?_;rintro e wb ⟨rfl,gb,kb⟩) | (go_at_call_of 145 (Value.int IntKind.i64 (i.pl:Int));refine (aJG (i.pl:Int) _ (by omega) (by omega) _ _ _ _ _ _ _ _ (by assumption)).mono ?_;rintro e wc ⟨rfl,gc,kc⟩) | (go_at_call_of 145 (Value.int IntKind.i64 (i.sp:Int));refine (aJG (i.sp:Int) _ (by omega) (by omega) _ _ _ _ _ _ _ _ (by assumption)).mono ?_;rintro e wd ⟨rfl,gd,kd⟩))
 go_wp2
 go_ret
 refine ⟨?_,((((aA (World.grownBy_alloc _ _ _)).trans ga).trans gb).trans gc).trans gd⟩
 rw[<- hb.out]
 rfl
theorem xK (n:Int)(b:Bool)(w:World)(h:eE n=b):
  Calls prog 179 #[.int .i64 n,.int .i64 0] w fun e w'=>e=.returned (.bool b)/\w'=w:=by
 subst h
 exact gO n 0 w
theorem aEV (K s:Int)(i:It)(m:Mk)(ai ao:Option Addr)(ni ci no co:Nat)(w:World)(hm:zQ m=false):
  Calls prog 180 #[rv K s i m (.slice ai ni ci) (.slice ao no co)] w fun e w'=>e=.returned (.bool false)/\w.grownBy w' none:=by
 obtain ⟨a,b,c,d,f⟩:=m
 unfold rv
 cases h1:eE a
 ·go_enter func180,ntmps180
  go_wp2_with (first | (go_at_call 179;refine (xK _ _ _ (by assumption)).mono ?_;rintro e w' ⟨rfl,rfl⟩))
  go_ret
  exact ⟨rfl,aG (World.grownBy_alloc _ _ _) _⟩
 ·cases h2:eE b
  ·go_enter func180,ntmps180
   go_wp2_with (first | (go_at_call 179;refine (xK _ _ _ (by assumption)).mono ?_;rintro e w' ⟨rfl,rfl⟩))
   go_ret
   exact ⟨rfl,aG (World.grownBy_alloc _ _ _) _⟩
  ·cases h3:eE c
   ·go_enter func180,ntmps180
    go_wp2_with (first | (go_at_call 179;refine (xK _ _ _ (by assumption)).mono ?_;rintro e w' ⟨rfl,rfl⟩))
    go_ret
    exact ⟨rfl,aG (World.grownBy_alloc _ _ _) _⟩
   ·cases h4:eE d
    ·go_enter func180,ntmps180
     go_wp2_with (first | (go_at_call 179;refine (xK _ _ _ (by assumption)).mono ?_;rintro e w' ⟨rfl,rfl⟩))
     go_ret
     exact ⟨rfl,aG (World.grownBy_alloc _ _ _) _⟩
    ·cases h5:eE f
     ·go_enter func180,ntmps180
      go_wp2_with (first | (go_at_call 179;refine (xK _ _ _ (by assumption)).mono ?_;rintro e w' ⟨rfl,rfl⟩))
      go_ret
      exact ⟨rfl,aG (World.grownBy_alloc _ _ _) _⟩
     ·simp[zQ,h1,h2,h3,h4,h5] at hm
theorem aAs (a b c d:Int)(w:World)(h1:0<=a)(h2:a<=1)(h3:1<=b)(h4:b<=65535)(k1:0<=c)(k2:c<=1)(k3:1<=d)(k4:d<=65535)(p0 p1 p2 p3 p4:Addr)(v0 v1 v2 v3 v4:Value)(h:w.cell? p0=some v0/\w.cell? p1=some v1/\w.cell? p2=some v2/\w.cell? p3=some v3/\w.cell? p4=some v4):
  Calls prog 174 #[.agg #[.int .i64 a,.int .i64 b],.agg #[.int .i64 c,.int .i64 d]] w fun e w'=>e=.returned (.bool (decide (fO a b c d<0)))/\w.grownBy w' none/\w'.cell? p0=some v0/\w'.cell? p1=some v1/\w'.cell? p2=some v2/\w'.cell? p3=some v3/\w'.cell? p4=some v4:=by
 refine (tT a b c d w h1 h2 h3 h4 k1 k2 k3 k4).mono ?_
 rintro e w' ⟨he,g⟩
 exact ⟨he,g,g.cell h.1 (by simp),g.cell h.2.1 (by simp),g.cell h.2.2.1 (by simp),g.cell h.2.2.2.1 (by simp),g.cell h.2.2.2.2 (by simp)⟩
theorem aHp {a b:Nat}(h:¬(a<=16/\b<=8)):16<a∨8<b:=by omega
theorem aJH {a b:Prop} [Decidable a] [Decidable b](h:(decide a&&decide b)=true):a/\b:=by simpa using h
theorem aJI (l sq:Int)(it:It)(t:Bool)(h:(decide (1<=sq)&&decide (sq<=65535))=false)(hl:0<=l):(decide (l<sq)&&eE sq&&eF it&&t)=false:=by
 rw[Bool.eq_false_iff]
 intro hh
 simp only[Bool.and_eq_true,decide_eq_true_eq,eE] at hh
 have:(decide (1<=sq)&&decide (sq<=65535))=true:=by simp only[Bool.and_eq_true,decide_eq_true_eq];omega
 rw[this] at h
 exact absurd h (by decide)
theorem aIA (l sq:Int)(it:It)(t:Bool)(hl:l<sq)(h:1<=sq/\sq<=65535)(hb:eF it=true):(decide (l<sq)&&eE sq&&eF it&&t)=t:=by
 rw[decide_eq_true hl,hb,eE,decide_eq_true (by omega),decide_eq_true (by omega)];rfl
def mY (es:List En)(k:Nat):Int:=if h:0<k/\k<=es.length then (es[k -1]'(by omega)).sq else 0
theorem jF (es:List En)(k:Nat)(h:k<es.length):mY es (k+1)=es[k].sq:=by unfold mY;rw[dif_pos ⟨by omega,by omega⟩];rfl
theorem aHq (n:Int)(b:Bool)(w:World)(h:(decide (1<=n)&&decide (n<=65535))=b):
  Calls prog 179 #[.int .i64 n,.int .i64 1] w fun e w'=>e=.returned (.bool b)/\w'=w:=by
 subst h
 exact gO n 1 w
theorem aEW (K s:Int)(i:It)(m:Mk)(is:List It)(es:List En)(vi vo:Value)(w:World)(hm:zQ m=true)(hi:bH w vi is)(ho:bL w vo es)(hn:is.length<=16)(ho8:es.length<=8):
  Calls prog 180 #[rv K s i m vi vo] w fun e w'=>e=.returned (.bool (qV none is&&fD 0 es))/\w.grownBy w' none:=by
 obtain ⟨a,b,c,d,f⟩:=m
 have h1:eE a=true/\eE b=true/\eE c=true/\eE d=true/\eE f=true:=by simpa [zQ,and_assoc] using hm
 obtain ⟨h1,h2,h3,h4,h5⟩:=h1
 clear hm
 obtain ⟨ai,ci,rfl,hxi⟩:=hi
 obtain ⟨ao,co,rfl,hxo⟩:=ho
 unfold rv
 have HI:=Hid.mk' hxi
 have HO:=Hid.mk' hxo
 clear hxi hxo
 obtain ⟨n,hL⟩:∃n,is.length=n:=⟨_,rfl⟩
 obtain ⟨no,hLo⟩:∃n,es.length=n:=⟨_,rfl⟩
 rw[hL] at hn ⊢
 rw[hLo] at ho8 ⊢
 have HL:Hid (is.length=n):=hL
 have HLo:Hid (es.length=no):=hLo
 clear hL hLo
 have g16:decide ((16:Int)<(n:Int))=false:=by simp;omega
 have g8:decide ((8:Int)<(no:Int))=false:=by simp;omega
 go_enter func180,ntmps180
 go_wp2_with (first | (go_at_call 179;refine (xK _ _ _ (by assumption)).mono ?_;rintro e w' ⟨rfl,rfl⟩))
 have W0:=Hid.mk' (aG (World.grownBy_alloc w (.cells #[.int .i64 K,.int .i64 s,.int .i64 i.sh,.int .i64 i.nu,.float .f32 i.pl,.float .f32 i.sp,.int .i64 a,.int .i64 b,.int .i64 c,.int .i64 d,.int .i64 f,.slice ai n ci,.slice ao no co] 139) none) (.cells #[.int .i64 a,.int .i64 b,.int .i64 c,.int .i64 d,.int .i64 f] 44))
 have k11:∀w',((w.alloc (.cells #[.int .i64 K,.int .i64 s,.int .i64 i.sh,.int .i64 i.nu,.float .f32 i.pl,.float .f32 i.sp,.int .i64 a,.int .i64 b,.int .i64 c,.int .i64 d,.int .i64 f,.slice ai n ci,.slice ao no co] 139)).alloc (.cells #[.int .i64 a,.int .i64 b,.int .i64 c,.int .i64 d,.int .i64 f] 44)).grownBy w' none->w'.cell? ⟨w.heap.size,11,none⟩=some (.slice ai n ci)/\w'.cell? ⟨w.heap.size,12,none⟩=some (.slice ao no co):=fun w' g=>⟨g.cell (by go_simp) (by simp),g.cell (by go_simp) (by simp)⟩
 generalize ((w.alloc (.cells #[.int .i64 K,.int .i64 s,.int .i64 i.sh,.int .i64 i.nu,.float .f32 i.pl,.float .f32 i.sp,.int .i64 a,.int .i64 b,.int .i64 c,.int .i64 d,.int .i64 f,.slice ai n ci,.slice ao no co] 139)).alloc (.cells #[.int .i64 a,.int .i64 b,.int .i64 c,.int .i64 d,.int .i64 f] 44))=w0 at *
 go_loopw [5] (fun v wr=>∃k:Nat,k<=n/\v=.int .i64 k/\w0.grownBy wr none/\qV none is=qV (kG is k) (is.drop k)/\∀q,kG is k=some q->eF q=true) (fun v _=>n -(intOf v).toNat)
 case atStart=>exact ⟨0,by omega,rfl,aD _ _,by simp[kG],by simp[kG]⟩
 case round=>
  obtain ⟨k,hk,rfl,gk,hck,hpv⟩:=hrel
  have HK:Hid (qV none is=qV (kG is k) (is.drop k)):=hck
  have HP:=Hid.mk' hpv
  clear hck hpv
  obtain ⟨r11,r12⟩:=k11 _ gk
  have GK:=Hid.mk' gk
  clear gk
  by_cases hlt:k<n
  ·have hkl:k<is.length:=by rw[HL.out];exact hlt
   have HA:=Hid.mk' (aEt (kG is k) is k hkl)
   obtain ⟨x,hx⟩:∃x,is[k]=x:=⟨_,rfl⟩
   rw[hx] at HA
   obtain ⟨g,off,rfl,hc⟩:=HI.out (by omega)
   have dd:∀(e:Nat) (he:e<is.length) j (hj:j<4) u,(is[e]).cells[j]?=some u->wr.cell? ⟨g,off+e * 4+j,none⟩=some u:=fun e he j hj u hu=>by
    have:=hc (4 * e+j) u (by rw[cQ is e j he hj];exact hu)
    rw[show off+(4 * e+j)=off+e * 4+j by omega] at this
    exact (W0.out.trans GK.out).cell this (by simp)
   clear hc
   have DD:=Hid.mk' dd
   clear dd
   have d0:=DD.out k hkl 0 (by omega) _ rfl
   have d1:=DD.out k hkl 1 (by omega) _ rfl
   have d2:=DD.out k hkl 2 (by omega) _ rfl
   have d3:=DD.out k hkl 3 (by omega) _ rfl
   rw[hx] at d0 d1 d2 d3
   rw[Nat.add_zero] at d0
   go_wp2_with fail
   refine (bJ x _).mono ?_
   rintro e w1 ⟨rfl,g1⟩
   obtain ⟨s11,s12⟩:=k11 _ (GK.out.trans g1)
   have G1:=Hid.mk' (GK.out.trans g1)
   cases hb:eF x
   ·go_wp2_with fail
    go_ret
    exact ⟨aM (by rw[HK.out,HA.out,hb];rfl),W0.out.trans G1.out⟩
   ·by_cases hk0:k=0
    ·subst hk0
     go_wp2_with fail
     refine ⟨⟨1,by omega,rfl,G1.out,?_,?_⟩,by simp[intOf];omega⟩
     ·rw[HK.out,HA.out,hb,iU is 0 hkl,hx];simp[kG,jY]
     ·rw[iU is 0 hkl,hx];intro q hq;injection hq with hq;rw[<- hq];exact hb
    ·obtain ⟨m,rfl⟩:∃m,k=m+1:=⟨k -1,by omega⟩
     obtain ⟨q,hq⟩:∃q,is[m]'(by omega)=q:=⟨_,rfl⟩
     have hp:Hid (kG is (m+1)=some q):=by show kG is (m+1)=some q;rw[<- hq];simp[kG];omega
     have hqi:=jZ (by have:=HP.out q hp.out;simp[eF] at this;exact this.1.1:pA q.sh q.nu=true)
     have hxi:=jZ (by have:=hb;simp[eF] at this;exact this.1.1:pA x.sh x.nu=true)
     have q0:=g1.cell (DD.out m (by omega) 0 (by omega) _ rfl) (by simp)
     have q1:=g1.cell (DD.out m (by omega) 1 (by omega) _ rfl) (by simp)
     have e0:=g1.cell d0 (by simp)
     have e1:=g1.cell d1 (by simp)
     rw[hq] at q0 q1
     rw[Nat.add_zero] at q0
     rw[Int.natCast_succ]
     have y2:m<n:=by omega
     have y1:(m:Int)<(n:Int):=by omega
     have y0:(0:Int)<=(m:Int):=by omega
     have y3:IntKind.i64.wrap (m:Int)=(m:Int):=by simp[IntKind.wrap,IntKind.bits,IntKind.signed];omega
     have y4:wrap64 (m:Int)=(m:Int):=by simp[wrap64];omega
     have y5:IntKind.i64.wrap ((m:Int)+1 -1)=(m:Int):=by rw[Int.add_sub_cancel];exact y3
     have y6:wrap64 ((m:Int)+1 -1)=(m:Int):=by rw[Int.add_sub_cancel];exact y4
     have y7:(m:Int).toNat=m:=rfl
     have z0:(0:Int)<=(m:Int)+1:=by omega
     have z1:(m:Int)+1<(n:Int):=by omega
     have z7:((m:Int)+1).toNat=m+1:=rfl
     go_wp2_with fail
     go_region_held3 (fun w'=>w'.cell? ⟨w.heap.size,11,none⟩=some (.slice (some ⟨g,off,none⟩) n ci)/\w'.cell? ⟨g,off+m * 4,none⟩=some (.int .i64 q.sh)/\w'.cell? ⟨g,off+m * 4+1,none⟩=some (.int .i64 q.nu)/\w'.cell? ⟨g,off+(m+1) * 4,none⟩=some (.int .i64 x.sh)/\w'.cell? ⟨g,off+(m+1) * 4+1,none⟩=some (.int .i64 x.nu)) (go_keep)
      (first | (go_at_call 174;refine (aAs q.sh q.nu x.sh x.nu _ hqi.1 hqi.2.1 hqi.2.2.1 hqi.2.2.2 hxi.1 hxi.2.1 hxi.2.2.1 hxi.2.2.2 _ _ _ _ _ _ _ _ _ _ (by assumption)).mono ?_;rintro e w2 ⟨rfl,g2,k2⟩))
     go_wp2
     ·have hx2:=‹(!decide (fO q.sh q.nu x.sh x.nu<0))=true›
      go_ret
      exact ⟨aM (by rw[HK.out,HA.out,hb,hp.out];simp at hx2;simp[jY];intro hh;omega),W0.out.trans ((aA G1.out).trans g2)⟩
     ·have hx2:=‹(!decide (fO q.sh q.nu x.sh x.nu<0))=false›
      simp at hx2
      refine ⟨⟨m+1+1,by omega,by go_num,(aA G1.out).trans g2,?_,?_⟩,by simp[intOf];omega⟩
      ·rw[HK.out,HA.out,hb,iU is (m+1) hkl,hx,hp.out];simp[jY,hx2]
      ·rw[iU is (m+1) hkl,hx];intro q hq;injection hq with hq;rw[<- hq];exact hb
  ·have hck:Hid (qV none is=true):=by show qV none is=true;rw[HK.out,List.drop_of_length_le (by rw[HL.out];omega)];rfl
   clear HK HP HI HL
   go_wp2_with fail
   go_loopw [8] (fun v wr=>∃k:Nat,k<=no/\v=.int .i64 k/\w0.grownBy wr none/\fD 0 es=fD (mY es k) (es.drop k)/\(0<k->1<=mY es k)) (fun v _=>no -(intOf v).toNat)
   case atStart=>exact ⟨0,by omega,rfl,GK.out,by simp[mY],by omega⟩
   case round=>
    obtain ⟨k,hk,rfl,gk,hck2,hlq⟩:=hrel
    have HK:Hid (fD 0 es=fD (mY es k) (es.drop k)):=hck2
    have HP:=Hid.mk' hlq
    clear hck2 hlq r11 r12
    obtain ⟨r11,r12⟩:=k11 _ gk
    clear GK
    have GK:=Hid.mk' gk
    clear gk
    by_cases hlt:k<no
    ·have hkl:k<es.length:=by rw[HLo.out];exact hlt
     have HA:=Hid.mk' (aBu (mY es k) es k hkl)
     obtain ⟨x,hx⟩:∃x,es[k]=x:=⟨_,rfl⟩
     rw[hx] at HA
     obtain ⟨sq,it⟩:=x
     obtain ⟨g,off,rfl,hc⟩:=HO.out (by omega)
     have dd:∀(e:Nat) (he:e<es.length) j (hj:j<5) u,(es[e]).cells[j]?=some u->wr.cell? ⟨g,off+e * 5+j,none⟩=some u:=fun e he j hj u hu=>by
      have:=hc (5 * e+j) u (by rw[dY es e j he hj];exact hu)
      rw[show off+(5 * e+j)=off+e * 5+j by omega] at this
      exact (W0.out.trans GK.out).cell this (by simp)
     clear hc
     have DD:=Hid.mk' dd
     clear dd
     have d0:=DD.out k hkl 0 (by omega) _ rfl
     have d1:=DD.out k hkl 1 (by omega) _ rfl
     have d2:=DD.out k hkl 2 (by omega) _ rfl
     have d3:=DD.out k hkl 3 (by omega) _ rfl
     have d4:=DD.out k hkl 4 (by omega) _ rfl
     rw[hx] at d0 d1 d2 d3 d4
     rw[Nat.add_zero] at d0
     go_wp2_with fail
     refine (bJ it _).mono ?_
     rintro e w1 ⟨rfl,g1⟩
     obtain ⟨s11,s12⟩:=k11 _ (GK.out.trans g1)
     have G1:=Hid.mk' (GK.out.trans g1)
     have e0:=g1.cell d0 (by simp)
     by_cases hk0:k=0
     ·subst hk0
      simp only[Nat.zero_mul,Nat.add_zero] at e0
      cases hb:eF it
      ·go_wp2_with fail
       go_quiet (fail)
       go_wp2
       go_ret
       exact ⟨aM (by rw[HK.out,HA.out];simp[hb]),W0.out.trans (aL G1.out nq)⟩
      ·cases hn1:decide (1<=sq)&&decide (sq<=65535)
       ·have HN:=Hid.mk' hn1
        clear hn1
        go_wp2_with fail
        go_quiet (fail)
        go_wp2_with (first | (go_at_call 179;refine (aHq sq _ _ HN.out).mono ?_;rintro e w' ⟨rfl,rfl⟩))
        go_ret
        refine ⟨aM ?_,W0.out.trans (aL G1.out nq)⟩
        rw[HK.out,HA.out,aJI _ sq it _ HN.out (by simp[mY]),Bool.and_false]
       ·have HN:=Hid.mk' hn1
        clear hn1
        go_wp2_with fail
        go_quiet (fail)
        go_wp2_with (first | (go_at_call 179;refine (aHq sq _ _ HN.out).mono ?_;rintro e w' ⟨rfl,rfl⟩))
        have hn2:=aJH HN.out
        refine ⟨⟨1,by omega,rfl,aL G1.out nq,?_,?_⟩,by simp[intOf];omega⟩
        ·rw[HK.out,HA.out,jF es 0 hkl,hx,aIA _ sq it _ (by simp[mY];omega) hn2 hb]
        ·rw[jF es 0 hkl,hx];intro _;exact hn2.1
     ·obtain ⟨m,rfl⟩:∃m,k=m+1:=⟨k -1,by omega⟩
      obtain ⟨q,hq⟩:∃q,es[m]'(by omega)=q:=⟨_,rfl⟩
      have hl:Hid (mY es (m+1)=q.sq):=by show _=_;rw[jF es m (by omega),hq]
      have hq1:1<=q.sq:=by have:=HP.out (by omega);rw[hl.out] at this;exact this
      have q0:=g1.cell (DD.out m (by omega) 0 (by omega) _ rfl) (by simp)
      rw[hq] at q0
      rw[Nat.add_zero] at q0
      rw[Int.natCast_succ]
      have y2:m<no:=by omega
      have y1:(m:Int)<(no:Int):=by omega
      have y0:(0:Int)<=(m:Int):=by omega
      have y3:IntKind.i64.wrap (m:Int)=(m:Int):=by simp[IntKind.wrap,IntKind.bits,IntKind.signed];omega
      have y4:wrap64 (m:Int)=(m:Int):=by simp[wrap64];omega
      have y5:IntKind.i64.wrap ((m:Int)+1 -1)=(m:Int):=by rw[Int.add_sub_cancel];exact y3
      have y6:wrap64 ((m:Int)+1 -1)=(m:Int):=by rw[Int.add_sub_cancel];exact y4
      have y7:(m:Int).toNat=m:=rfl
      have z0:(0:Int)<=(m:Int)+1:=by omega
      have z1:(m:Int)+1<(no:Int):=by omega
      have z7:((m:Int)+1).toNat=m+1:=rfl
      have z8:((m:Int)+1==0)=false:=by simp;omega
      have z9:decide ((m:Int)+1=0)=false:=by simp;omega
      cases hb:eF it
      ·go_wp2_with fail
       go_quiet (fail)
       go_wp2
       go_ret
       exact ⟨aM (by rw[HK.out,HA.out];simp[hb]),W0.out.trans (aL G1.out nq)⟩
      ·cases hr:decide (q.sq<sq)
       ·go_wp2_with fail
        go_quiet (fail)
        go_wp2
        go_ret
        exact ⟨aM (by rw[HK.out,HA.out,hl.out];simp[hr]),W0.out.trans (aL G1.out nq)⟩
       ·cases hn1:decide (1<=sq)&&decide (sq<=65535)
        ·have HN:=Hid.mk' hn1
         clear hn1
         go_wp2_with fail
         go_quiet (fail)
         go_wp2_with (first | (go_at_call 179;refine (aHq sq _ _ HN.out).mono ?_;rintro e w' ⟨rfl,rfl⟩))
         go_ret
         refine ⟨aM ?_,W0.out.trans (aL G1.out nq)⟩
         rw[HK.out,HA.out,aJI _ sq it _ HN.out (by rw[hl.out];omega),Bool.and_false]
        ·have HN:=Hid.mk' hn1
         clear hn1
         go_wp2_with fail
         go_quiet (fail)
         go_wp2_with (first | (go_at_call 179;refine (aHq sq _ _ HN.out).mono ?_;rintro e w' ⟨rfl,rfl⟩))
         have hn2:=aJH HN.out
         have hr2:=of_decide_eq_true hr
         refine ⟨⟨m+1+1,by omega,by go_num,aL G1.out nq,?_,?_⟩,by simp[intOf];omega⟩
         ·rw[HK.out,HA.out,jF es (m+1) hkl,hx,aIA _ sq it _ (by rw[hl.out];exact hr2) hn2 hb]
         ·rw[jF es (m+1) hkl,hx];intro _;exact hn2.1
    ·go_wp2
     go_ret
     exact ⟨aM (by rw[hck.out,HK.out,List.drop_of_length_le (by rw[HLo.out];omega)];rfl),W0.out.trans GK.out⟩
theorem aEX (K s:Int)(i:It)(m:Mk)(ai ao:Option Addr)(ni ci no co:Nat)(w:World)(hm:zQ m=true)(hx:16<ni∨8<no):
  Calls prog 180 #[rv K s i m (.slice ai ni ci) (.slice ao no co)] w fun e w'=>e=.returned (.bool false)/\w.grownBy w' none:=by
 obtain ⟨a,b,c,d,f⟩:=m
 have h1:eE a=true/\eE b=true/\eE c=true/\eE d=true/\eE f=true:=by simpa [zQ,and_assoc] using hm
 obtain ⟨h1,h2,h3,h4,h5⟩:=h1
 clear hm
 unfold rv
 by_cases h16:16<ni
 ·have g16:decide ((16:Int)<(ni:Int))=true:=by simp;omega
  go_enter func180,ntmps180
  go_wp2_with (first | (go_at_call 179;refine (xK _ _ _ (by assumption)).mono ?_;rintro e w' ⟨rfl,rfl⟩))
  go_ret
  exact ⟨rfl,aG (World.grownBy_alloc _ _ _) _⟩
 ·have g16:decide ((16:Int)<(ni:Int))=false:=by simp;omega
  have g8:decide ((8:Int)<(no:Int))=true:=by simp;omega
  go_enter func180,ntmps180
  go_wp2_with (first | (go_at_call 179;refine (xK _ _ _ (by assumption)).mono ?_;rintro e w' ⟨rfl,rfl⟩))
  go_ret
  exact ⟨rfl,aG (World.grownBy_alloc _ _ _) _⟩
theorem eS (r:Rc)(vi vo:Value)(w:World)(hi:bH w vi r.items)(ho:bL w vo r.outs):
  Calls prog 180 #[rv r.kind r.seq r.it r.mks vi vo] w fun e w'=>e=.returned (.bool (gY r))/\w.grownBy w' none:=by
 obtain ⟨K,s,i,m,is,es⟩:=r
 cases hm:zQ m
 ·have E:gY ⟨K,s,i,m,is,es⟩=false:=by simp[gY,hm]
  rw[E]
  obtain ⟨ai,ci,rfl,_⟩:=hi
  obtain ⟨ao,co,rfl,_⟩:=ho
  exact aEV K s i m ai ao _ ci _ co w hm
 ·by_cases hl:is.length<=16/\es.length<=8
  ·have E:gY ⟨K,s,i,m,is,es⟩=(qV none is&&fD 0 es):=by simp[gY,hm,gK,lA,hl.1,hl.2]
   rw[E]
   exact aEW K s i m is es vi vo w hm hi ho hl.1 hl.2
  ·have E:gY ⟨K,s,i,m,is,es⟩=false:=by
    simp[gY,hm,gK,lA]
    intro h1 _ h2
    exact absurd ⟨h1,h2⟩ hl
   rw[E]
   obtain ⟨ai,ci,rfl,_⟩:=hi
   obtain ⟨ao,co,rfl,_⟩:=ho
   exact aEX K s i m ai ao is.length ci es.length co w hm (aHp hl)
theorem dS (x:Nat)(b:Bool)(w:World)(h:bB x=b):
  Calls prog 175 #[.float .f32 x] w fun e w'=>e=.returned (.bool b)/\w.grownBy w' none:=by
 subst h
 exact xJ x w
theorem xL (K s:Int)(i:It)(m:Mk)(ai ao:Option Addr)(ni ci no co:Nat)(w:World)(hK:K<1∨8<K):
  Calls prog 152 #[rv K s i m (.slice ai ni ci) (.slice ao no co)] w fun e w'=>e=.returned (.bool false)/\w.grownBy w' none:=by
 unfold rv
 by_cases h1:K<1
 ·have d1:decide (K<1)=true:=decide_eq_true h1
  clear hK h1
  go_enter func152,ntmps152
  go_wp2_with fail
  go_ret
  exact ⟨rfl,World.grownBy_alloc _ _ _⟩
 ·have h8:8<K:=by omega
  have d1:decide (K<1)=false:=decide_eq_false h1
  have d8:decide (8<K)=true:=decide_eq_true h8
  clear hK
  go_enter func152,ntmps152
  go_wp2_with fail
  go_ret
  exact ⟨rfl,World.grownBy_alloc _ _ _⟩
theorem aBL (i:It):qH i true=zU i:=by simp[qH,zU]
theorem cC (i:It):qH i false=jM i:=by
 rw[Bool.eq_iff_iff]
 simp[qH,jM,zU]
 omega
theorem aBM (s:Int):(decide (1<=s)&&decide (s<=65535))=(decide (1<=s)&&eE s):=by
 rw[Bool.eq_iff_iff]
 simp only[eE,Bool.and_eq_true,decide_eq_true_eq]
 omega
theorem aCK (K s:Int)(i:It)(m:Mk)(ai ao:Option Addr)(ni ci no co:Nat)(w:World)(h1:1<=K)(h8:K<=8)(hf:bB i.pl=false):
  Calls prog 152 #[rv K s i m (.slice ai ni ci) (.slice ao no co)] w fun e w'=>e=.returned (.bool false)/\w.grownBy w' none:=by
 unfold rv
 have d1:decide (K<1)=false:=by simp;omega
 have d8:decide (8<K)=false:=by simp;omega
 go_enter func152,ntmps152
 go_wp2_with fail
 refine Calls.mono (dS i.pl _ _ hf) ?_
 rintro e w1 ⟨rfl,g1⟩
 go_wp2_with fail
 go_ret
 exact ⟨rfl,(World.grownBy_alloc w _ none).trans g1⟩
theorem aCL (K s:Int)(i:It)(m:Mk)(ai ao:Option Addr)(ni ci no co:Nat)(w:World)(h1:1<=K)(h8:K<=8)(fp:bB i.pl=true)(hf:bB i.sp=false):
  Calls prog 152 #[rv K s i m (.slice ai ni ci) (.slice ao no co)] w fun e w'=>e=.returned (.bool false)/\w.grownBy w' none:=by
 unfold rv
 have d1:decide (K<1)=false:=by simp;omega
 have d8:decide (8<K)=false:=by simp;omega
 go_enter func152,ntmps152
 go_wp2_with fail
 refine Calls.mono (dS i.pl _ _ fp) ?_
 rintro e w1 ⟨rfl,g1⟩
 have G1:=Hid.mk' ((World.grownBy_alloc w _ none).trans g1)
 obtain ⟨c1_0,c1_1,c1_2,c1_3,c1_4,c1_5,c1_6,c1_7,c1_8,c1_9,c1_10,c1_11,c1_12⟩:=oY g1
 go_wp2_with fail
 refine Calls.mono (dS i.sp _ _ hf) ?_
 rintro e w2 ⟨rfl,g2⟩
 go_wp2_with fail
 go_ret
 exact ⟨rfl,G1.out.trans g2⟩
theorem vJ (K s:Int)(i:It)(m:Mk)(ai ao:Option Addr)(ni ci no co:Nat)(w:World)(h1:1<=K)(h8:K<=8)(h6:K≠6)(fp:bB i.pl=true)(fs:bB i.sp=true)(hni:ni<=1000000000)(hno:no<=1000000000)(hl:(wR m&&(ni==0)&&(no==0))=false):
  Calls prog 152 #[rv K s i m (.slice ai ni ci) (.slice ao no co)] w fun e w'=>e=.returned (.bool false)/\w.grownBy w' none:=by
 unfold rv
 have d1:decide (K<1)=false:=by simp;omega
 have d8:decide (8<K)=false:=by simp;omega
 have d6:(K !=6)=true:=by simpa using h6
 go_enter func152,ntmps152
 go_wp2_with fail
 refine Calls.mono (dS i.pl _ _ fp) ?_
 rintro e w1 ⟨rfl,g1⟩
 have G1:=Hid.mk' ((World.grownBy_alloc w _ none).trans g1)
 obtain ⟨c1_0,c1_1,c1_2,c1_3,c1_4,c1_5,c1_6,c1_7,c1_8,c1_9,c1_10,c1_11,c1_12⟩:=oY g1
 go_wp2_with fail
 refine Calls.mono (dS i.sp _ _ fs) ?_
 rintro e w2 ⟨rfl,g2⟩
 have G2:=Hid.mk' (G1.out.trans g2)
 obtain ⟨c2_0,c2_1,c2_2,c2_3,c2_4,c2_5,c2_6,c2_7,c2_8,c2_9,c2_10,c2_11,c2_12⟩:=jL g2 c1_0 c1_1 c1_2 c1_3 c1_4 c1_5 c1_6 c1_7 c1_8 c1_9 c1_10 c1_11 c1_12
 clear c1_0 c1_1 c1_2 c1_3 c1_4 c1_5 c1_6 c1_7 c1_8 c1_9 c1_10 c1_11 c1_12
 by_cases h0:ni+no=0
 ·have e1:ni=0:=by omega
  have e2:no=0:=by omega
  subst e1 e2
  have hz:wR m=false:=by simpa using hl
  have HZ:=Hid.mk' hz
  clear hz hl h0
  go_wp2_with fail
  ·exfalso
   have hz:=HZ.out
   simp[wR, *] at hz
  all_goals (go_ret;exact ⟨rfl,G2.out⟩)
 ·have d0:decide ((0:Int)<(ni:Int)+(no:Int))=true:=by simp;omega
  have HL:=Hid.mk' hl
  clear hl
  go_wp2_with fail
  go_ret
  exact ⟨rfl,G2.out⟩
theorem aEY (s:Int)(i:It)(ai ao:Option Addr)(ci co:Nat)(w:World)(hp:i.pl<4294967296)(hs:i.sp<4294967296)(fp:bB i.pl=true)(fs:bB i.sp=true):
  Calls prog 152 #[rv 1 s i aZ (.slice ai 0 ci) (.slice ao 0 co)] w fun e w'=>e=.returned (.bool (aP ⟨1,s,i,aZ,[],[]⟩))/\w.grownBy w' none:=by
 unfold rv aZ
 go_enter func152,ntmps152
 go_wp2_with fail
 refine Calls.mono (dS i.pl _ _ fp) ?_
 rintro e w1 ⟨rfl,g1⟩
 have G1:=Hid.mk' ((World.grownBy_alloc w _ none).trans g1)
 obtain ⟨c1_0,c1_1,c1_2,c1_3,c1_4,c1_5,c1_6,c1_7,c1_8,c1_9,c1_10,c1_11,c1_12⟩:=oY g1
 go_wp2_with fail
 refine Calls.mono (dS i.sp _ _ fs) ?_
 rintro e w2 ⟨rfl,g2⟩
 have G2:=Hid.mk' (G1.out.trans g2)
 obtain ⟨c2_0,c2_1,c2_2,c2_3,c2_4,c2_5,c2_6,c2_7,c2_8,c2_9,c2_10,c2_11,c2_12⟩:=jL g2 c1_0 c1_1 c1_2 c1_3 c1_4 c1_5 c1_6 c1_7 c1_8 c1_9 c1_10 c1_11 c1_12
 clear c1_0 c1_1 c1_2 c1_3 c1_4 c1_5 c1_6 c1_7 c1_8 c1_9 c1_10 c1_11 c1_12
 go_wp2_with fail
 refine Calls.mono (bF i false _ hp hs fp fs) ?_
 rintro e w3 ⟨rfl,g3⟩
 have G3:=Hid.mk' (G2.out.trans g3)
 obtain ⟨c3_0,c3_1,c3_2,c3_3,c3_4,c3_5,c3_6,c3_7,c3_8,c3_9,c3_10,c3_11,c3_12⟩:=jL g3 c2_0 c2_1 c2_2 c2_3 c2_4 c2_5 c2_6 c2_7 c2_8 c2_9 c2_10 c2_11 c2_12
 clear c2_0 c2_1 c2_2 c2_3 c2_4 c2_5 c2_6 c2_7 c2_8 c2_9 c2_10 c2_11 c2_12
 go_wp2_with fail
 refine Calls.mono (bJ i _) ?_
 rintro e w4 ⟨rfl,g4⟩
 have G4:=Hid.mk' (G3.out.trans g4)
 obtain ⟨c4_0,c4_1,c4_2,c4_3,c4_4,c4_5,c4_6,c4_7,c4_8,c4_9,c4_10,c4_11,c4_12⟩:=jL g4 c3_0 c3_1 c3_2 c3_3 c3_4 c3_5 c3_6 c3_7 c3_8 c3_9 c3_10 c3_11 c3_12
 clear c3_0 c3_1 c3_2 c3_3 c3_4 c3_5 c3_6 c3_7 c3_8 c3_9 c3_10 c3_11 c3_12
 cases h5:eF i
 ·go_wp2_with fail
  go_ret
  exact ⟨aM (by simp[aP,h5]),G4.out⟩
 ·go_wp2_with fail
  go_ret
  exact ⟨aM (by simp[aP,eU,wR,h5]),G4.out⟩
theorem aEZ (s:Int)(i:It)(ai ao:Option Addr)(ci co:Nat)(w:World)(hp:i.pl<4294967296)(hs:i.sp<4294967296)(fp:bB i.pl=true)(fs:bB i.sp=true):
  Calls prog 152 #[rv 2 s i aZ (.slice ai 0 ci) (.slice ao 0 co)] w fun e w'=>e=.returned (.bool (aP ⟨2,s,i,aZ,[],[]⟩))/\w.grownBy w' none:=by
 unfold rv aZ
 go_enter func152,ntmps152
 go_wp2_with fail
 refine Calls.mono (dS i.pl _ _ fp) ?_
 rintro e w1 ⟨rfl,g1⟩
 have G1:=Hid.mk' ((World.grownBy_alloc w _ none).trans g1)
 obtain ⟨c1_0,c1_1,c1_2,c1_3,c1_4,c1_5,c1_6,c1_7,c1_8,c1_9,c1_10,c1_11,c1_12⟩:=oY g1
 go_wp2_with fail
 refine Calls.mono (dS i.sp _ _ fs) ?_
 rintro e w2 ⟨rfl,g2⟩
 have G2:=Hid.mk' (G1.out.trans g2)
 obtain ⟨c2_0,c2_1,c2_2,c2_3,c2_4,c2_5,c2_6,c2_7,c2_8,c2_9,c2_10,c2_11,c2_12⟩:=jL g2 c1_0 c1_1 c1_2 c1_3 c1_4 c1_5 c1_6 c1_7 c1_8 c1_9 c1_10 c1_11 c1_12
 clear c1_0 c1_1 c1_2 c1_3 c1_4 c1_5 c1_6 c1_7 c1_8 c1_9 c1_10 c1_11 c1_12
 go_wp2_with fail
 refine Calls.mono (bF i true _ hp hs fp fs) ?_
 rintro e w3 ⟨rfl,g3⟩
 have G3:=Hid.mk' (G2.out.trans g3)
 obtain ⟨c3_0,c3_1,c3_2,c3_3,c3_4,c3_5,c3_6,c3_7,c3_8,c3_9,c3_10,c3_11,c3_12⟩:=jL g3 c2_0 c2_1 c2_2 c2_3 c2_4 c2_5 c2_6 c2_7 c2_8 c2_9 c2_10 c2_11 c2_12
 clear c2_0 c2_1 c2_2 c2_3 c2_4 c2_5 c2_6 c2_7 c2_8 c2_9 c2_10 c2_11 c2_12
 go_wp2_with fail
 refine Calls.mono (bJ i _) ?_
 rintro e w4 ⟨rfl,g4⟩
 have G4:=Hid.mk' (G3.out.trans g4)
 obtain ⟨c4_0,c4_1,c4_2,c4_3,c4_4,c4_5,c4_6,c4_7,c4_8,c4_9,c4_10,c4_11,c4_12⟩:=jL g4 c3_0 c3_1 c3_2 c3_3 c3_4 c3_5 c3_6 c3_7 c3_8 c3_9 c3_10 c3_11 c3_12
 clear c3_0 c3_1 c3_2 c3_3 c3_4 c3_5 c3_6 c3_7 c3_8 c3_9 c3_10 c3_11 c3_12
 cases h5:qH i true
 ·go_wp2_with fail
  go_ret
  exact ⟨aM (by rw[aBL] at h5;simp[aP,h5]),G4.out⟩
 ·go_wp2_with fail
  refine Calls.mono (tS i.sh i.nu _) ?_
  rintro e w5 ⟨rfl,g5⟩
  have G5:=Hid.mk' (G4.out.trans g5)
  obtain ⟨c5_0,c5_1,c5_2,c5_3,c5_4,c5_5,c5_6,c5_7,c5_8,c5_9,c5_10,c5_11,c5_12⟩:=jL g5 c4_0 c4_1 c4_2 c4_3 c4_4 c4_5 c4_6 c4_7 c4_8 c4_9 c4_10 c4_11 c4_12
  clear c4_0 c4_1 c4_2 c4_3 c4_4 c4_5 c4_6 c4_7 c4_8 c4_9 c4_10 c4_11 c4_12
  cases h6:pA i.sh i.nu
  ·go_wp2_with fail
   go_ret
   exact ⟨aM (by simp[aP,h6]),G5.out⟩
  ·go_wp2_with fail
   go_ret
   exact ⟨aM (by rw[aBL] at h5;simp[aP,eU,wR,h5,h6]),G5.out⟩
theorem aFa (s:Int)(i:It)(ai ao:Option Addr)(ci co:Nat)(w:World)(hp:i.pl<4294967296)(hs:i.sp<4294967296)(fp:bB i.pl=true)(fs:bB i.sp=true):
  Calls prog 152 #[rv 3 s i aZ (.slice ai 0 ci) (.slice ao 0 co)] w fun e w'=>e=.returned (.bool (aP ⟨3,s,i,aZ,[],[]⟩))/\w.grownBy w' none:=by
 unfold rv aZ
 go_enter func152,ntmps152
 go_wp2_with fail
 refine Calls.mono (dS i.pl _ _ fp) ?_
 rintro e w1 ⟨rfl,g1⟩
 have G1:=Hid.mk' ((World.grownBy_alloc w _ none).trans g1)
 obtain ⟨c1_0,c1_1,c1_2,c1_3,c1_4,c1_5,c1_6,c1_7,c1_8,c1_9,c1_10,c1_11,c1_12⟩:=oY g1
 go_wp2_with fail
 refine Calls.mono (dS i.sp _ _ fs) ?_
 rintro e w2 ⟨rfl,g2⟩
 have G2:=Hid.mk' (G1.out.trans g2)
 obtain ⟨c2_0,c2_1,c2_2,c2_3,c2_4,c2_5,c2_6,c2_7,c2_8,c2_9,c2_10,c2_11,c2_12⟩:=jL g2 c1_0 c1_1 c1_2 c1_3 c1_4 c1_5 c1_6 c1_7 c1_8 c1_9 c1_10 c1_11 c1_12
 clear c1_0 c1_1 c1_2 c1_3 c1_4 c1_5 c1_6 c1_7 c1_8 c1_9 c1_10 c1_11 c1_12
 go_wp2_with fail
 refine Calls.mono (bF i false _ hp hs fp fs) ?_
 rintro e w3 ⟨rfl,g3⟩
 have G3:=Hid.mk' (G2.out.trans g3)
 obtain ⟨c3_0,c3_1,c3_2,c3_3,c3_4,c3_5,c3_6,c3_7,c3_8,c3_9,c3_10,c3_11,c3_12⟩:=jL g3 c2_0 c2_1 c2_2 c2_3 c2_4 c2_5 c2_6 c2_7 c2_8 c2_9 c2_10 c2_11 c2_12
 clear c2_0 c2_1 c2_2 c2_3 c2_4 c2_5 c2_6 c2_7 c2_8 c2_9 c2_10 c2_11 c2_12
 go_wp2_with fail
 refine Calls.mono (bJ i _) ?_
 rintro e w4 ⟨rfl,g4⟩
 have G4:=Hid.mk' (G3.out.trans g4)
 obtain ⟨c4_0,c4_1,c4_2,c4_3,c4_4,c4_5,c4_6,c4_7,c4_8,c4_9,c4_10,c4_11,c4_12⟩:=jL g4 c3_0 c3_1 c3_2 c3_3 c3_4 c3_5 c3_6 c3_7 c3_8 c3_9 c3_10 c3_11 c3_12
 clear c3_0 c3_1 c3_2 c3_3 c3_4 c3_5 c3_6 c3_7 c3_8 c3_9 c3_10 c3_11 c3_12
 cases h5:qH i false
 ·go_wp2_with fail
  go_ret
  exact ⟨aM (by rw[cC] at h5;simp[aP,h5]),G4.out⟩
 ·go_wp2_with fail
  go_ret
  exact ⟨aM (by rw[cC] at h5;simp[aP,eU,wR,h5]),G4.out⟩
theorem aFb (s:Int)(i:It)(ai ao:Option Addr)(ci co:Nat)(w:World)(hp:i.pl<4294967296)(hs:i.sp<4294967296)(fp:bB i.pl=true)(fs:bB i.sp=true):
  Calls prog 152 #[rv 4 s i aZ (.slice ai 0 ci) (.slice ao 0 co)] w fun e w'=>e=.returned (.bool (aP ⟨4,s,i,aZ,[],[]⟩))/\w.grownBy w' none:=by
 unfold rv aZ
 go_enter func152,ntmps152
 go_wp2_with fail
 refine Calls.mono (dS i.pl _ _ fp) ?_
 rintro e w1 ⟨rfl,g1⟩
 have G1:=Hid.mk' ((World.grownBy_alloc w _ none).trans g1)
 obtain ⟨c1_0,c1_1,c1_2,c1_3,c1_4,c1_5,c1_6,c1_7,c1_8,c1_9,c1_10,c1_11,c1_12⟩:=oY g1
 go_wp2_with fail
 refine Calls.mono (dS i.sp _ _ fs) ?_
 rintro e w2 ⟨rfl,g2⟩
 have G2:=Hid.mk' (G1.out.trans g2)
 obtain ⟨c2_0,c2_1,c2_2,c2_3,c2_4,c2_5,c2_6,c2_7,c2_8,c2_9,c2_10,c2_11,c2_12⟩:=jL g2 c1_0 c1_1 c1_2 c1_3 c1_4 c1_5 c1_6 c1_7 c1_8 c1_9 c1_10 c1_11 c1_12
 clear c1_0 c1_1 c1_2 c1_3 c1_4 c1_5 c1_6 c1_7 c1_8 c1_9 c1_10 c1_11 c1_12
 go_wp2_with fail
 refine Calls.mono (bF i false _ hp hs fp fs) ?_
 rintro e w3 ⟨rfl,g3⟩
 have G3:=Hid.mk' (G2.out.trans g3)
 obtain ⟨c3_0,c3_1,c3_2,c3_3,c3_4,c3_5,c3_6,c3_7,c3_8,c3_9,c3_10,c3_11,c3_12⟩:=jL g3 c2_0 c2_1 c2_2 c2_3 c2_4 c2_5 c2_6 c2_7 c2_8 c2_9 c2_10 c2_11 c2_12
 clear c2_0 c2_1 c2_2 c2_3 c2_4 c2_5 c2_6 c2_7 c2_8 c2_9 c2_10 c2_11 c2_12
 go_wp2_with fail
 refine Calls.mono (bJ i _) ?_
 rintro e w4 ⟨rfl,g4⟩
 have G4:=Hid.mk' (G3.out.trans g4)
 obtain ⟨c4_0,c4_1,c4_2,c4_3,c4_4,c4_5,c4_6,c4_7,c4_8,c4_9,c4_10,c4_11,c4_12⟩:=jL g4 c3_0 c3_1 c3_2 c3_3 c3_4 c3_5 c3_6 c3_7 c3_8 c3_9 c3_10 c3_11 c3_12
 clear c3_0 c3_1 c3_2 c3_3 c3_4 c3_5 c3_6 c3_7 c3_8 c3_9 c3_10 c3_11 c3_12
 cases h5:eF i
 ·go_wp2_with fail
  go_ret
  exact ⟨aM (by simp[aP,h5]),G4.out⟩
 ·go_wp2_with (first | (go_at_call 179;refine (gO s 1 _).mono ?_;rintro e w' ⟨rfl,rfl⟩))
  go_ret
  exact ⟨aM (by rw[aBM];simp[aP,eU,wR,h5]),G4.out⟩
theorem aFc (s:Int)(i:It)(ai ao:Option Addr)(ci co:Nat)(w:World)(hp:i.pl<4294967296)(hs:i.sp<4294967296)(fp:bB i.pl=true)(fs:bB i.sp=true):
  Calls prog 152 #[rv 7 s i aZ (.slice ai 0 ci) (.slice ao 0 co)] w fun e w'=>e=.returned (.bool (aP ⟨7,s,i,aZ,[],[]⟩))/\w.grownBy w' none:=by
 unfold rv aZ
 go_enter func152,ntmps152
 go_wp2_with fail
 refine Calls.mono (dS i.pl _ _ fp) ?_
 rintro e w1 ⟨rfl,g1⟩
 have G1:=Hid.mk' ((World.grownBy_alloc w _ none).trans g1)
 obtain ⟨c1_0,c1_1,c1_2,c1_3,c1_4,c1_5,c1_6,c1_7,c1_8,c1_9,c1_10,c1_11,c1_12⟩:=oY g1
 go_wp2_with fail
 refine Calls.mono (dS i.sp _ _ fs) ?_
 rintro e w2 ⟨rfl,g2⟩
 have G2:=Hid.mk' (G1.out.trans g2)
 obtain ⟨c2_0,c2_1,c2_2,c2_3,c2_4,c2_5,c2_6,c2_7,c2_8,c2_9,c2_10,c2_11,c2_12⟩:=jL g2 c1_0 c1_1 c1_2 c1_3 c1_4 c1_5 c1_6 c1_7 c1_8 c1_9 c1_10 c1_11 c1_12
 clear c1_0 c1_1 c1_2 c1_3 c1_4 c1_5 c1_6 c1_7 c1_8 c1_9 c1_10 c1_11 c1_12
 go_wp2_with fail
 refine Calls.mono (bF i false _ hp hs fp fs) ?_
 rintro e w3 ⟨rfl,g3⟩
 have G3:=Hid.mk' (G2.out.trans g3)
 obtain ⟨c3_0,c3_1,c3_2,c3_3,c3_4,c3_5,c3_6,c3_7,c3_8,c3_9,c3_10,c3_11,c3_12⟩:=jL g3 c2_0 c2_1 c2_2 c2_3 c2_4 c2_5 c2_6 c2_7 c2_8 c2_9 c2_10 c2_11 c2_12
 clear c2_0 c2_1 c2_2 c2_3 c2_4 c2_5 c2_6 c2_7 c2_8 c2_9 c2_10 c2_11 c2_12
 go_wp2_with fail
 refine Calls.mono (bJ i _) ?_
 rintro e w4 ⟨rfl,g4⟩
 have G4:=Hid.mk' (G3.out.trans g4)
 obtain ⟨c4_0,c4_1,c4_2,c4_3,c4_4,c4_5,c4_6,c4_7,c4_8,c4_9,c4_10,c4_11,c4_12⟩:=jL g4 c3_0 c3_1 c3_2 c3_3 c3_4 c3_5 c3_6 c3_7 c3_8 c3_9 c3_10 c3_11 c3_12
 clear c3_0 c3_1 c3_2 c3_3 c3_4 c3_5 c3_6 c3_7 c3_8 c3_9 c3_10 c3_11 c3_12
 cases h5:eF i
 ·go_wp2_with fail
  go_ret
  exact ⟨aM (by simp[aP,h5]),G4.out⟩
 ·go_wp2_with (first | (go_at_call 179;refine (gO s 1 _).mono ?_;rintro e w' ⟨rfl,rfl⟩))
  go_ret
  exact ⟨aM (by rw[aBM];simp[aP,eU,wR,h5]),G4.out⟩
theorem aFd (s:Int)(i:It)(ai ao:Option Addr)(ci co:Nat)(w:World)(hp:i.pl<4294967296)(hs:i.sp<4294967296)(fp:bB i.pl=true)(fs:bB i.sp=true):
  Calls prog 152 #[rv 5 s i aZ (.slice ai 0 ci) (.slice ao 0 co)] w fun e w'=>e=.returned (.bool (aP ⟨5,s,i,aZ,[],[]⟩))/\w.grownBy w' none:=by
 unfold rv aZ
 go_enter func152,ntmps152
 go_wp2_with fail
 refine Calls.mono (dS i.pl _ _ fp) ?_
 rintro e w1 ⟨rfl,g1⟩
 have G1:=Hid.mk' ((World.grownBy_alloc w _ none).trans g1)
 obtain ⟨c1_0,c1_1,c1_2,c1_3,c1_4,c1_5,c1_6,c1_7,c1_8,c1_9,c1_10,c1_11,c1_12⟩:=oY g1
 go_wp2_with fail
 refine Calls.mono (dS i.sp _ _ fs) ?_
 rintro e w2 ⟨rfl,g2⟩
 have G2:=Hid.mk' (G1.out.trans g2)
 obtain ⟨c2_0,c2_1,c2_2,c2_3,c2_4,c2_5,c2_6,c2_7,c2_8,c2_9,c2_10,c2_11,c2_12⟩:=jL g2 c1_0 c1_1 c1_2 c1_3 c1_4 c1_5 c1_6 c1_7 c1_8 c1_9 c1_10 c1_11 c1_12
 clear c1_0 c1_1 c1_2 c1_3 c1_4 c1_5 c1_6 c1_7 c1_8 c1_9 c1_10 c1_11 c1_12
 go_wp2_with fail
 refine Calls.mono (bF i false _ hp hs fp fs) ?_
 rintro e w3 ⟨rfl,g3⟩
 have G3:=Hid.mk' (G2.out.trans g3)
 obtain ⟨c3_0,c3_1,c3_2,c3_3,c3_4,c3_5,c3_6,c3_7,c3_8,c3_9,c3_10,c3_11,c3_12⟩:=jL g3 c2_0 c2_1 c2_2 c2_3 c2_4 c2_5 c2_6 c2_7 c2_8 c2_9 c2_10 c2_11 c2_12
 clear c2_0 c2_1 c2_2 c2_3 c2_4 c2_5 c2_6 c2_7 c2_8 c2_9 c2_10 c2_11 c2_12
 go_wp2_with fail
 refine Calls.mono (bJ i _) ?_
 rintro e w4 ⟨rfl,g4⟩
 have G4:=Hid.mk' (G3.out.trans g4)
 obtain ⟨c4_0,c4_1,c4_2,c4_3,c4_4,c4_5,c4_6,c4_7,c4_8,c4_9,c4_10,c4_11,c4_12⟩:=jL g4 c3_0 c3_1 c3_2 c3_3 c3_4 c3_5 c3_6 c3_7 c3_8 c3_9 c3_10 c3_11 c3_12
 clear c3_0 c3_1 c3_2 c3_3 c3_4 c3_5 c3_6 c3_7 c3_8 c3_9 c3_10 c3_11 c3_12
 cases h5:qH i false
 ·go_wp2_with fail
  go_ret
  exact ⟨aM (by rw[cC] at h5;simp[aP,h5]),G4.out⟩
 ·go_wp2_with (first | (go_at_call 179;refine (gO s 0 _).mono ?_;rintro e w' ⟨rfl,rfl⟩))
  go_ret
  exact ⟨aM (by rw[cC] at h5;simp[aP,eU,wR,h5,eE]),G4.out⟩
theorem aFe (s:Int)(i:It)(ai ao:Option Addr)(ci co:Nat)(w:World)(hp:i.pl<4294967296)(hs:i.sp<4294967296)(fp:bB i.pl=true)(fs:bB i.sp=true):
  Calls prog 152 #[rv 8 s i aZ (.slice ai 0 ci) (.slice ao 0 co)] w fun e w'=>e=.returned (.bool (aP ⟨8,s,i,aZ,[],[]⟩))/\w.grownBy w' none:=by
 unfold rv aZ
 go_enter func152,ntmps152
 go_wp2_with fail
 refine Calls.mono (dS i.pl _ _ fp) ?_
 rintro e w1 ⟨rfl,g1⟩
 have G1:=Hid.mk' ((World.grownBy_alloc w _ none).trans g1)
 obtain ⟨c1_0,c1_1,c1_2,c1_3,c1_4,c1_5,c1_6,c1_7,c1_8,c1_9,c1_10,c1_11,c1_12⟩:=oY g1
 go_wp2_with fail
 refine Calls.mono (dS i.sp _ _ fs) ?_
 rintro e w2 ⟨rfl,g2⟩
 have G2:=Hid.mk' (G1.out.trans g2)
 obtain ⟨c2_0,c2_1,c2_2,c2_3,c2_4,c2_5,c2_6,c2_7,c2_8,c2_9,c2_10,c2_11,c2_12⟩:=jL g2 c1_0 c1_1 c1_2 c1_3 c1_4 c1_5 c1_6 c1_7 c1_8 c1_9 c1_10 c1_11 c1_12
 clear c1_0 c1_1 c1_2 c1_3 c1_4 c1_5 c1_6 c1_7 c1_8 c1_9 c1_10 c1_11 c1_12
 go_wp2_with fail
 refine Calls.mono (bF i false _ hp hs fp fs) ?_
 rintro e w3 ⟨rfl,g3⟩
 have G3:=Hid.mk' (G2.out.trans g3)
 obtain ⟨c3_0,c3_1,c3_2,c3_3,c3_4,c3_5,c3_6,c3_7,c3_8,c3_9,c3_10,c3_11,c3_12⟩:=jL g3 c2_0 c2_1 c2_2 c2_3 c2_4 c2_5 c2_6 c2_7 c2_8 c2_9 c2_10 c2_11 c2_12
 clear c2_0 c2_1 c2_2 c2_3 c2_4 c2_5 c2_6 c2_7 c2_8 c2_9 c2_10 c2_11 c2_12
 go_wp2_with fail
 refine Calls.mono (bJ i _) ?_
 rintro e w4 ⟨rfl,g4⟩
 have G4:=Hid.mk' (G3.out.trans g4)
 obtain ⟨c4_0,c4_1,c4_2,c4_3,c4_4,c4_5,c4_6,c4_7,c4_8,c4_9,c4_10,c4_11,c4_12⟩:=jL g4 c3_0 c3_1 c3_2 c3_3 c3_4 c3_5 c3_6 c3_7 c3_8 c3_9 c3_10 c3_11 c3_12
 clear c3_0 c3_1 c3_2 c3_3 c3_4 c3_5 c3_6 c3_7 c3_8 c3_9 c3_10 c3_11 c3_12
 cases h5:qH i false
 ·go_wp2_with fail
  go_ret
  exact ⟨aM (by rw[cC] at h5;simp[aP,h5]),G4.out⟩
 ·go_wp2_with (first | (go_at_call 179;refine (gO s 0 _).mono ?_;rintro e w' ⟨rfl,rfl⟩))
  go_ret
  exact ⟨aM (by rw[cC] at h5;simp[aP,eU,wR,h5,eE]),G4.out⟩
theorem aFf (s:Int)(i:It)(m:Mk)(is:List It)(es:List En)(vi vo:Value)(w:World)(hi:bH w vi is)(ho:bL w vo es)(hp:i.pl<4294967296)(hs:i.sp<4294967296)(fp:bB i.pl=true)(fs:bB i.sp=true)(hni:is.length<=1000000000)(hno:es.length<=1000000000):
  Calls prog 152 #[rv 6 s i m vi vo] w fun e w'=>e=.returned (.bool (aP ⟨6,s,i,m,is,es⟩))/\w.grownBy w' none:=by
 have HI:=Hid.mk' hi
 have HO:=Hid.mk' ho
 clear hi ho
 unfold rv
 obtain ⟨ai,ci,rfl,_⟩:=HI.out
 obtain ⟨ao,co,rfl,_⟩:=HO.out
 obtain ⟨ni,hN⟩:∃n,is.length=n:=⟨_,rfl⟩
 obtain ⟨no,hO⟩:∃n,es.length=n:=⟨_,rfl⟩
 rw[hN] at HI hni ⊢
 rw[hO] at HO hno ⊢
 clear hN hO
 go_enter func152,ntmps152
 go_wp2_with fail
 refine Calls.mono (dS i.pl _ _ fp) ?_
 rintro e w1 ⟨rfl,g1⟩
 have G1:=Hid.mk' ((World.grownBy_alloc w _ none).trans g1)
 obtain ⟨c1_0,c1_1,c1_2,c1_3,c1_4,c1_5,c1_6,c1_7,c1_8,c1_9,c1_10,c1_11,c1_12⟩:=oY g1
 go_wp2_with fail
 refine Calls.mono (dS i.sp _ _ fs) ?_
 rintro e w2 ⟨rfl,g2⟩
 have G2:=Hid.mk' (G1.out.trans g2)
 obtain ⟨c2_0,c2_1,c2_2,c2_3,c2_4,c2_5,c2_6,c2_7,c2_8,c2_9,c2_10,c2_11,c2_12⟩:=jL g2 c1_0 c1_1 c1_2 c1_3 c1_4 c1_5 c1_6 c1_7 c1_8 c1_9 c1_10 c1_11 c1_12
 clear c1_0 c1_1 c1_2 c1_3 c1_4 c1_5 c1_6 c1_7 c1_8 c1_9 c1_10 c1_11 c1_12
 by_cases h0:ni+no=0
 ·have e1:ni=0:=by omega
  have e2:no=0:=by omega
  subst e1 e2
  clear h0
  obtain ⟨a,b,c,d,f⟩:=m
  simp only at c2_6 c2_7 c2_8 c2_9 c2_10 ⊢
  by_cases ha:¬a=0
  ·go_wp2_with fail
   refine Calls.mono (bF i false _ hp hs fp fs) ?_
   rintro e w3 ⟨rfl,g3⟩
   have G3:=Hid.mk' (G2.out.trans g3)
   obtain ⟨c3_0,c3_1,c3_2,c3_3,c3_4,c3_5,c3_6,c3_7,c3_8,c3_9,c3_10,c3_11,c3_12⟩:=jL g3 c2_0 c2_1 c2_2 c2_3 c2_4 c2_5 c2_6 c2_7 c2_8 c2_9 c2_10 c2_11 c2_12
   go_wp2_with fail
   refine Calls.mono (bJ i _) ?_
   rintro e w4 ⟨rfl,g4⟩
   have G4:=Hid.mk' (G3.out.trans g4)
   obtain ⟨c4_0,c4_1,c4_2,c4_3,c4_4,c4_5,c4_6,c4_7,c4_8,c4_9,c4_10,c4_11,c4_12⟩:=jL g4 c3_0 c3_1 c3_2 c3_3 c3_4 c3_5 c3_6 c3_7 c3_8 c3_9 c3_10 c3_11 c3_12
   clear c3_0 c3_1 c3_2 c3_3 c3_4 c3_5 c3_6 c3_7 c3_8 c3_9 c3_10 c3_11 c3_12
   cases h5:qH i false
   ·go_wp2_with fail
    go_ret
    exact ⟨aM (by rw[cC] at h5;simp[aP,h5]),G4.out⟩
   ·by_cases hs0:s=0
    ·subst hs0
     go_wp2_with fail
     refine Calls.mono (eS ⟨6,0,i,⟨a,b,c,d,f⟩,is,es⟩ (.slice ai 0 ci) (.slice ao 0 co) _ (HI.out.grown G4.out) (HO.out.grown G4.out)) ?_
     rintro e w5 ⟨rfl,g5⟩
     go_wp2_with fail
     go_ret
     exact ⟨aM (by rw[cC] at h5;simp[aP,h5]),G4.out.trans g5⟩
    ·have hs1:(s==0)=false:=by simpa using hs0
     go_wp2_with fail
     go_ret
     exact ⟨aM (by simp[aP,hs0]),G4.out⟩
  obtain rfl:a=0:=by omega
  clear ha
  by_cases hb:¬b=0
  ·go_wp2_with fail
   refine Calls.mono (bF i false _ hp hs fp fs) ?_
   rintro e w3 ⟨rfl,g3⟩
   have G3:=Hid.mk' (G2.out.trans g3)
   obtain ⟨c3_0,c3_1,c3_2,c3_3,c3_4,c3_5,c3_6,c3_7,c3_8,c3_9,c3_10,c3_11,c3_12⟩:=jL g3 c2_0 c2_1 c2_2 c2_3 c2_4 c2_5 c2_6 c2_7 c2_8 c2_9 c2_10 c2_11 c2_12
   go_wp2_with fail
   refine Calls.mono (bJ i _) ?_
   rintro e w4 ⟨rfl,g4⟩
   have G4:=Hid.mk' (G3.out.trans g4)
   obtain ⟨c4_0,c4_1,c4_2,c4_3,c4_4,c4_5,c4_6,c4_7,c4_8,c4_9,c4_10,c4_11,c4_12⟩:=jL g4 c3_0 c3_1 c3_2 c3_3 c3_4 c3_5 c3_6 c3_7 c3_8 c3_9 c3_10 c3_11 c3_12
   clear c3_0 c3_1 c3_2 c3_3 c3_4 c3_5 c3_6 c3_7 c3_8 c3_9 c3_10 c3_11 c3_12
   cases h5:qH i false
   ·go_wp2_with fail
    go_ret
    exact ⟨aM (by rw[cC] at h5;simp[aP,h5]),G4.out⟩
   ·by_cases hs0:s=0
    ·subst hs0
     go_wp2_with fail
     refine Calls.mono (eS ⟨6,0,i,⟨0,b,c,d,f⟩,is,es⟩ (.slice ai 0 ci) (.slice ao 0 co) _ (HI.out.grown G4.out) (HO.out.grown G4.out)) ?_
     rintro e w5 ⟨rfl,g5⟩
     go_wp2_with fail
     go_ret
     exact ⟨aM (by rw[cC] at h5;simp[aP,h5]),G4.out.trans g5⟩
    ·have hs1:(s==0)=false:=by simpa using hs0
     go_wp2_with fail
     go_ret
     exact ⟨aM (by simp[aP,hs0]),G4.out⟩
  obtain rfl:b=0:=by omega
  clear hb
  by_cases hc:¬c=0
  ·go_wp2_with fail
   refine Calls.mono (bF i false _ hp hs fp fs) ?_
   rintro e w3 ⟨rfl,g3⟩
   have G3:=Hid.mk' (G2.out.trans g3)
   obtain ⟨c3_0,c3_1,c3_2,c3_3,c3_4,c3_5,c3_6,c3_7,c3_8,c3_9,c3_10,c3_11,c3_12⟩:=jL g3 c2_0 c2_1 c2_2 c2_3 c2_4 c2_5 c2_6 c2_7 c2_8 c2_9 c2_10 c2_11 c2_12
   go_wp2_with fail
   refine Calls.mono (bJ i _) ?_
   rintro e w4 ⟨rfl,g4⟩
   have G4:=Hid.mk' (G3.out.trans g4)
   obtain ⟨c4_0,c4_1,c4_2,c4_3,c4_4,c4_5,c4_6,c4_7,c4_8,c4_9,c4_10,c4_11,c4_12⟩:=jL g4 c3_0 c3_1 c3_2 c3_3 c3_4 c3_5 c3_6 c3_7 c3_8 c3_9 c3_10 c3_11 c3_12
   clear c3_0 c3_1 c3_2 c3_3 c3_4 c3_5 c3_6 c3_7 c3_8 c3_9 c3_10 c3_11 c3_12
   cases h5:qH i false
   ·go_wp2_with fail
    go_ret
    exact ⟨aM (by rw[cC] at h5;simp[aP,h5]),G4.out⟩
   ·by_cases hs0:s=0
    ·subst hs0
     go_wp2_with fail
     refine Calls.mono (eS ⟨6,0,i,⟨0,0,c,d,f⟩,is,es⟩ (.slice ai 0 ci) (.slice ao 0 co) _ (HI.out.grown G4.out) (HO.out.grown G4.out)) ?_
     rintro e w5 ⟨rfl,g5⟩
     go_wp2_with fail
     go_ret
     exact ⟨aM (by rw[cC] at h5;simp[aP,h5]),G4.out.trans g5⟩
    ·have hs1:(s==0)=false:=by simpa using hs0
     go_wp2_with fail
     go_ret
     exact ⟨aM (by simp[aP,hs0]),G4.out⟩
  obtain rfl:c=0:=by omega
  clear hc
  by_cases hd:¬d=0
  ·go_wp2_with fail
   refine Calls.mono (bF i false _ hp hs fp fs) ?_
   rintro e w3 ⟨rfl,g3⟩
   have G3:=Hid.mk' (G2.out.trans g3)
   obtain ⟨c3_0,c3_1,c3_2,c3_3,c3_4,c3_5,c3_6,c3_7,c3_8,c3_9,c3_10,c3_11,c3_12⟩:=jL g3 c2_0 c2_1 c2_2 c2_3 c2_4 c2_5 c2_6 c2_7 c2_8 c2_9 c2_10 c2_11 c2_12
   go_wp2_with fail
   refine Calls.mono (bJ i _) ?_
   rintro e w4 ⟨rfl,g4⟩
   have G4:=Hid.mk' (G3.out.trans g4)
   obtain ⟨c4_0,c4_1,c4_2,c4_3,c4_4,c4_5,c4_6,c4_7,c4_8,c4_9,c4_10,c4_11,c4_12⟩:=jL g4 c3_0 c3_1 c3_2 c3_3 c3_4 c3_5 c3_6 c3_7 c3_8 c3_9 c3_10 c3_11 c3_12
   clear c3_0 c3_1 c3_2 c3_3 c3_4 c3_5 c3_6 c3_7 c3_8 c3_9 c3_10 c3_11 c3_12
   cases h5:qH i false
   ·go_wp2_with fail
    go_ret
    exact ⟨aM (by rw[cC] at h5;simp[aP,h5]),G4.out⟩
   ·by_cases hs0:s=0
    ·subst hs0
     go_wp2_with fail
     refine Calls.mono (eS ⟨6,0,i,⟨0,0,0,d,f⟩,is,es⟩ (.slice ai 0 ci) (.slice ao 0 co) _ (HI.out.grown G4.out) (HO.out.grown G4.out)) ?_
     rintro e w5 ⟨rfl,g5⟩
     go_wp2_with fail
     go_ret
     exact ⟨aM (by rw[cC] at h5;simp[aP,h5]),G4.out.trans g5⟩
    ·have hs1:(s==0)=false:=by simpa using hs0
     go_wp2_with fail
     go_ret
     exact ⟨aM (by simp[aP,hs0]),G4.out⟩
  obtain rfl:d=0:=by omega
  clear hd
  by_cases hf:¬f=0
  ·go_wp2_with fail
   refine Calls.mono (bF i false _ hp hs fp fs) ?_
   rintro e w3 ⟨rfl,g3⟩
   have G3:=Hid.mk' (G2.out.trans g3)
   obtain ⟨c3_0,c3_1,c3_2,c3_3,c3_4,c3_5,c3_6,c3_7,c3_8,c3_9,c3_10,c3_11,c3_12⟩:=jL g3 c2_0 c2_1 c2_2 c2_3 c2_4 c2_5 c2_6 c2_7 c2_8 c2_9 c2_10 c2_11 c2_12
   go_wp2_with fail
   refine Calls.mono (bJ i _) ?_
   rintro e w4 ⟨rfl,g4⟩
   have G4:=Hid.mk' (G3.out.trans g4)
   obtain ⟨c4_0,c4_1,c4_2,c4_3,c4_4,c4_5,c4_6,c4_7,c4_8,c4_9,c4_10,c4_11,c4_12⟩:=jL g4 c3_0 c3_1 c3_2 c3_3 c3_4 c3_5 c3_6 c3_7 c3_8 c3_9 c3_10 c3_11 c3_12
   clear c3_0 c3_1 c3_2 c3_3 c3_4 c3_5 c3_6 c3_7 c3_8 c3_9 c3_10 c3_11 c3_12
   cases h5:qH i false
   ·go_wp2_with fail
    go_ret
    exact ⟨aM (by rw[cC] at h5;simp[aP,h5]),G4.out⟩
   ·by_cases hs0:s=0
    ·subst hs0
     go_wp2_with fail
     refine Calls.mono (eS ⟨6,0,i,⟨0,0,0,0,f⟩,is,es⟩ (.slice ai 0 ci) (.slice ao 0 co) _ (HI.out.grown G4.out) (HO.out.grown G4.out)) ?_
     rintro e w5 ⟨rfl,g5⟩
     go_wp2_with fail
     go_ret
     exact ⟨aM (by rw[cC] at h5;simp[aP,h5]),G4.out.trans g5⟩
    ·have hs1:(s==0)=false:=by simpa using hs0
     go_wp2_with fail
     go_ret
     exact ⟨aM (by simp[aP,hs0]),G4.out⟩
  obtain rfl:f=0:=by omega
  clear hf
  go_wp2_with fail
  refine Calls.mono (bF i false _ hp hs fp fs) ?_
  rintro e w3 ⟨rfl,g3⟩
  have G3:=Hid.mk' (G2.out.trans g3)
  obtain ⟨c3_0,c3_1,c3_2,c3_3,c3_4,c3_5,c3_6,c3_7,c3_8,c3_9,c3_10,c3_11,c3_12⟩:=jL g3 c2_0 c2_1 c2_2 c2_3 c2_4 c2_5 c2_6 c2_7 c2_8 c2_9 c2_10 c2_11 c2_12
  go_wp2_with fail
  refine Calls.mono (bJ i _) ?_
  rintro e w4 ⟨rfl,g4⟩
  have G4:=Hid.mk' (G3.out.trans g4)
  obtain ⟨c4_0,c4_1,c4_2,c4_3,c4_4,c4_5,c4_6,c4_7,c4_8,c4_9,c4_10,c4_11,c4_12⟩:=jL g4 c3_0 c3_1 c3_2 c3_3 c3_4 c3_5 c3_6 c3_7 c3_8 c3_9 c3_10 c3_11 c3_12
  clear c3_0 c3_1 c3_2 c3_3 c3_4 c3_5 c3_6 c3_7 c3_8 c3_9 c3_10 c3_11 c3_12
  cases h5:qH i false
  ·go_wp2_with fail
   go_ret
   exact ⟨aM (by rw[cC] at h5;simp[aP,h5]),G4.out⟩
  ·by_cases hs0:s=0
   ·subst hs0
    go_wp2_with fail
    refine Calls.mono (eS ⟨6,0,i,⟨0,0,0,0,0⟩,is,es⟩ (.slice ai 0 ci) (.slice ao 0 co) _ (HI.out.grown G4.out) (HO.out.grown G4.out)) ?_
    rintro e w5 ⟨rfl,g5⟩
    go_wp2_with fail
    go_ret
    exact ⟨aM (by rw[cC] at h5;simp[aP,h5]),G4.out.trans g5⟩
   ·have hs1:(s==0)=false:=by simpa using hs0
    go_wp2_with fail
    go_ret
    exact ⟨aM (by simp[aP,hs0]),G4.out⟩
 ·have d0:decide ((0:Int)<(ni:Int)+(no:Int))=true:=by simp;omega
  go_wp2_with fail
  refine Calls.mono (bF i false _ hp hs fp fs) ?_
  rintro e w3 ⟨rfl,g3⟩
  have G3:=Hid.mk' (G2.out.trans g3)
  obtain ⟨c3_0,c3_1,c3_2,c3_3,c3_4,c3_5,c3_6,c3_7,c3_8,c3_9,c3_10,c3_11,c3_12⟩:=jL g3 c2_0 c2_1 c2_2 c2_3 c2_4 c2_5 c2_6 c2_7 c2_8 c2_9 c2_10 c2_11 c2_12
  go_wp2_with fail
  refine Calls.mono (bJ i _) ?_
  rintro e w4 ⟨rfl,g4⟩
  have G4:=Hid.mk' (G3.out.trans g4)
  obtain ⟨c4_0,c4_1,c4_2,c4_3,c4_4,c4_5,c4_6,c4_7,c4_8,c4_9,c4_10,c4_11,c4_12⟩:=jL g4 c3_0 c3_1 c3_2 c3_3 c3_4 c3_5 c3_6 c3_7 c3_8 c3_9 c3_10 c3_11 c3_12
  clear c3_0 c3_1 c3_2 c3_3 c3_4 c3_5 c3_6 c3_7 c3_8 c3_9 c3_10 c3_11 c3_12
  cases h5:qH i false
  ·go_wp2_with fail
   go_ret
   exact ⟨aM (by rw[cC] at h5;simp[aP,h5]),G4.out⟩
  ·by_cases hs0:s=0
   ·subst hs0
    go_wp2_with fail
    refine Calls.mono (eS ⟨6,0,i,m,is,es⟩ (.slice ai ni ci) (.slice ao no co) _ (HI.out.grown G4.out) (HO.out.grown G4.out)) ?_
    rintro e w5 ⟨rfl,g5⟩
    go_wp2_with fail
    go_ret
    exact ⟨aM (by rw[cC] at h5;simp[aP,h5]),G4.out.trans g5⟩
   ·have hs1:(s==0)=false:=by simpa using hs0
    go_wp2_with fail
    go_ret
    exact ⟨aM (by simp[aP,hs0]),G4.out⟩
theorem hZ {x:Nat}(h:aS x=true):bB x=true:=by
 cases hf:bB x
 ·exfalso
  have hf':¬x % 2147483648<2139095040:=of_decide_eq_false hf
  simp only[aS,Bool.and_eq_true,Bool.or_eq_true,beq_iff_eq,Ieee.Format.order] at h
  obtain ⟨s1,m1,e1,r1⟩:∃s m e,FloatKind.f32.format.read 3296329728=.number s m e:=⟨_,_,_,rfl⟩
  obtain ⟨s2,m2,e2,r2⟩:∃s m e,FloatKind.f32.format.read 1148846080=.number s m e:=⟨_,_,_,rfl⟩
  rw[r1,r2] at h
  rcases Fl.read32_no x hf' with ⟨s,hr⟩ | ⟨s,f,hr⟩
  ·have hr':FloatKind.f32.format.read x=.infinity s:=hr
   rw[hr'] at h
   cases s<;>simp[Ieee.Datum.order] at h
  ·have hr':FloatKind.f32.format.read x=.nan s f:=hr
   rw[hr'] at h
   simp[Ieee.Datum.order] at h
 ·rfl
theorem xM {r:Rc}(h:aP r=true):bB r.it.pl=true/\bB r.it.sp=true:=by
 have hi:eF r.it=true->bB r.it.pl=true/\bB r.it.sp=true:=fun h=>by
  simp[eF] at h
  exact ⟨hZ h.1.2,hZ h.2⟩
 have hz:zU r.it=true->bB r.it.pl=true/\bB r.it.sp=true:=fun h=>by
  simp[zU] at h
  rw[h.1,h.2];exact ⟨by decide,by decide⟩
 have hn:jM r.it=true->bB r.it.pl=true/\bB r.it.sp=true:=fun h=>by
  simp only[jM,Bool.and_eq_true] at h;exact hz h.2
 unfold aP at h
 split at h
 ·simp only[Bool.and_eq_true] at h;exact hi h.1.2
 split at h
 ·simp only[Bool.and_eq_true] at h;exact hz h.1.2
 split at h
 ·simp only[Bool.and_eq_true] at h;exact hn h.1.2
 split at h
 ·simp only[Bool.and_eq_true] at h;exact hi h.1.2
 split at h
 ·simp only[Bool.and_eq_true] at h;exact hn h.1.2
 split at h
 ·simp only[Bool.and_eq_true] at h;exact hn h.1.2
 ·exact absurd h (by decide)
theorem aFg {r:Rc}(h:aP r=true)(h6:r.kind≠6):eU r=true:=by
 unfold aP at h
 split at h
 ·simp only[Bool.and_eq_true] at h;exact h.2
 split at h
 ·simp only[Bool.and_eq_true] at h;exact h.2
 split at h
 ·simp only[Bool.and_eq_true] at h;exact h.2
 split at h
 ·simp only[Bool.and_eq_true] at h;exact h.2
 split at h
 ·simp only[Bool.and_eq_true] at h;exact h.2
 ·exact absurd h (by simp)
theorem rQ (r:Rc)(vi vo:Value)(w:World)(hi:bH w vi r.items)(ho:bL w vo r.outs)(wf:WfIt r.it)(hni:r.items.length<=1000000000)(hno:r.outs.length<=1000000000):
  Calls prog 152 #[rv r.kind r.seq r.it r.mks vi vo] w fun e w'=>e=.returned (.bool (aP r))/\w.grownBy w' none:=by
 have hfl:∀b,aP r=false->b=false->(Calls prog 152 #[rv r.kind r.seq r.it r.mks vi vo] w fun e w'=>e=.returned (.bool b)/\w.grownBy w' none)->Calls prog 152 #[rv r.kind r.seq r.it r.mks vi vo] w fun e w'=>e=.returned (.bool (aP r))/\w.grownBy w' none:=fun b h hb hc=>by
  rw[h];rw[hb] at hc;exact hc
 by_cases hK:r.kind<1∨8<r.kind
 ·refine hfl false ?_ rfl ?_
  ·rw[Bool.eq_false_iff];intro h;have:=rC h;omega
  ·obtain ⟨ai,ci,rfl,_⟩:=hi
   obtain ⟨ao,co,rfl,_⟩:=ho
   exact xL _ _ _ _ _ _ _ _ _ _ w hK
 cases fp:bB r.it.pl
 ·refine hfl false ?_ rfl ?_
  ·rw[Bool.eq_false_iff];intro h;have:=(xM h).1;rw[fp] at this;exact absurd this (by decide)
  ·obtain ⟨ai,ci,rfl,_⟩:=hi
   obtain ⟨ao,co,rfl,_⟩:=ho
   exact aCK _ _ _ _ _ _ _ _ _ _ w (by omega) (by omega) fp
 cases fs:bB r.it.sp
 ·refine hfl false ?_ rfl ?_
  ·rw[Bool.eq_false_iff];intro h;have:=(xM h).2;rw[fs] at this;exact absurd this (by decide)
  ·obtain ⟨ai,ci,rfl,_⟩:=hi
   obtain ⟨ao,co,rfl,_⟩:=ho
   exact aCL _ _ _ _ _ _ _ _ _ _ w (by omega) (by omega) fp fs
 by_cases h6:r.kind=6
 ·obtain ⟨K,s,i,m,is,es⟩:=r
  subst h6
  exact aFf s i m is es vi vo w hi ho wf.p wf.s fp fs hni hno
 cases hb:eU r
 ·refine hfl false ?_ rfl ?_
  ·rw[Bool.eq_false_iff];intro h;have:=aFg h h6;rw[hb] at this;exact absurd this (by decide)
  ·obtain ⟨ai,ci,rfl,_⟩:=hi
   obtain ⟨ao,co,rfl,_⟩:=ho
   exact vJ _ _ _ _ _ _ _ _ _ _ w (by omega) (by omega) h6 fp fs hni hno hb
 obtain ⟨e1,e2,e3⟩:=jS hb
 obtain ⟨K,s,i,m,is,es⟩:=r
 obtain rfl:m=aZ:=e1
 obtain rfl:is=[]:=e2
 obtain rfl:es=[]:=e3
 obtain ⟨ai,ci,rfl,_⟩:=hi
 obtain ⟨ao,co,rfl,_⟩:=ho
 have hK':K=1∨K=2∨K=3∨K=4∨K=5∨K=7∨K=8:=by
  simp only at hK h6
  omega
 rcases hK' with rfl | rfl | rfl | rfl | rfl | rfl | rfl
 ·exact aEY s i ai ao ci co w wf.p wf.s fp fs
 ·exact aEZ s i ai ao ci co w wf.p wf.s fp fs
 ·exact aFa s i ai ao ci co w wf.p wf.s fp fs
 ·exact aFb s i ai ao ci co w wf.p wf.s fp fs
 ·exact aFd s i ai ao ci co w wf.p wf.s fp fs
 ·exact aFc s i ai ao ci co w wf.p wf.s fp fs
 ·exact aFe s i ai ao ci co w wf.p wf.s fp fs
theorem aFh (n:Int)(w:World)(h0:0<=n)(h1:n<=4294967295)(p0 p1 p2 p3 p4:Addr)(v0 v1 v2 v3 v4:Value)(h:w.cell? p0=some v0/\w.cell? p1=some v1/\w.cell? p2=some v2/\w.cell? p3=some v3/\w.cell? p4=some v4):
  Calls prog 145 #[.int .i64 n,.int .i64 2] w fun e w'=>e=.returned (.string (S (gF 2 n)))/\w.grownBy w' none/\w'.cell? p0=some v0/\w'.cell? p1=some v1/\w'.cell? p2=some v2/\w'.cell? p3=some v3/\w'.cell? p4=some v4:=by
 refine (dA n 2 w h0 h1 (by omega)).mono ?_
 rintro e w' ⟨he,g⟩
 exact ⟨he,g,g.cell h.1 (by simp),g.cell h.2.1 (by simp),g.cell h.2.2.1 (by simp),g.cell h.2.2.2.1 (by simp),g.cell h.2.2.2.2 (by simp)⟩
theorem pJ (n:Int)(w:World)(h0:0<=n)(h1:n<=4294967295)(p0 p1 p2 p3 p4 p5:Addr)(v0 v1 v2 v3 v4 v5:Value)(h:w.cell? p0=some v0/\w.cell? p1=some v1/\w.cell? p2=some v2/\w.cell? p3=some v3/\w.cell? p4=some v4/\w.cell? p5=some v5):
  Calls prog 145 #[.int .i64 n,.int .i64 2] w fun e w'=>e=.returned (.string (S (gF 2 n)))/\w.grownBy w' none/\w'.cell? p0=some v0/\w'.cell? p1=some v1/\w'.cell? p2=some v2/\w'.cell? p3=some v3/\w'.cell? p4=some v4/\w'.cell? p5=some v5:=by
 refine (dA n 2 w h0 h1 (by omega)).mono ?_
 rintro e w' ⟨he,g⟩
 exact ⟨he,g,g.cell h.1 (by simp),g.cell h.2.1 (by simp),g.cell h.2.2.1 (by simp),g.cell h.2.2.2.1 (by simp),g.cell h.2.2.2.2.1 (by simp),g.cell h.2.2.2.2.2 (by simp)⟩
theorem aFi (i:It)(w:World)(hk:ItOk i)(fp:bB i.pl=true)(fs:bB i.sp=true)(p0 p1 p2 p3 p4:Addr)(v0 v1 v2 v3 v4:Value)(h:w.cell? p0=some v0/\w.cell? p1=some v1/\w.cell? p2=some v2/\w.cell? p3=some v3/\w.cell? p4=some v4):
  Calls prog 181 #[.agg #[.int .i64 i.sh,.int .i64 i.nu,.float .f32 i.pl,.float .f32 i.sp]] w fun e w'=>e=.returned (.string (S (gZ i)))/\w.grownBy w' none/\w'.cell? p0=some v0/\w'.cell? p1=some v1/\w'.cell? p2=some v2/\w'.cell? p3=some v3/\w'.cell? p4=some v4:=by
 refine (jW i w hk fp fs).mono ?_
 rintro e w' ⟨he,g⟩
 exact ⟨he,g,g.cell h.1 (by simp),g.cell h.2.1 (by simp),g.cell h.2.2.1 (by simp),g.cell h.2.2.2.1 (by simp),g.cell h.2.2.2.2 (by simp)⟩
theorem aIT (i:It)(w:World)(hk:ItOk i)(fp:bB i.pl=true)(fs:bB i.sp=true)(p0 p1 p2 p3 p4 p5:Addr)(v0 v1 v2 v3 v4 v5:Value)(h:w.cell? p0=some v0/\w.cell? p1=some v1/\w.cell? p2=some v2/\w.cell? p3=some v3/\w.cell? p4=some v4/\w.cell? p5=some v5):
  Calls prog 181 #[.agg #[.int .i64 i.sh,.int .i64 i.nu,.float .f32 i.pl,.float .f32 i.sp]] w fun e w'=>e=.returned (.string (S (gZ i)))/\w.grownBy w' none/\w'.cell? p0=some v0/\w'.cell? p1=some v1/\w'.cell? p2=some v2/\w'.cell? p3=some v3/\w'.cell? p4=some v4/\w'.cell? p5=some v5:=by
 refine (jW i w hk fp fs).mono ?_
 rintro e w' ⟨he,g⟩
 exact ⟨he,g,g.cell h.1 (by simp),g.cell h.2.1 (by simp),g.cell h.2.2.1 (by simp),g.cell h.2.2.2.1 (by simp),g.cell h.2.2.2.2.1 (by simp),g.cell h.2.2.2.2.2 (by simp)⟩
theorem iP (n:Int)(w:World)(h0:0<=n)(h1:n<=255):
  Calls prog 145 #[.int .i64 n,.int .i64 1] w fun e w'=>e=.returned (.string (S [u8 n]))/\w.grownBy w' none:=by
 rw[<- aHh n h0 h1]
 exact dA n 1 w h0 (by omega) (by omega)
theorem aBN (n:Int)(w:World)(h0:0<=n)(h1:n<=65535):
  Calls prog 145 #[.int .i64 n,.int .i64 2] w fun e w'=>e=.returned (.string (S (n2 n)))/\w.grownBy w' none:=by
 rw[<- pG n h0 h1]
 exact dA n 2 w h0 (by omega) (by omega)
theorem aCM (s:Int)(i:It)(m:Mk)(ai ao:Option Addr)(ni ci no co:Nat)(w:World)(hk:ItOk i)(fp:bB i.pl=true)(fs:bB i.sp=true):
  Calls prog 153 #[rv 1 s i m (.slice ai ni ci) (.slice ao no co)] w fun e w'=>e=.returned (.string (S ([u8 1]++gZ i)))/\w.grownBy w' none:=by
 unfold rv
 have hap:=kJ
 have hsz:=aQ
 have hln:=eX
 have h2l:=dZ
 have hil:=eV
 go_enter func153,ntmps153
 go_wp2_with fail
 refine (iP 1 _ (by omega) (by omega)).mono ?_
 rintro e w1 ⟨rfl,g1⟩
 have G1:=Hid.mk' ((World.grownBy_alloc w _ none).trans g1)
 obtain ⟨c1_0,c1_1,c1_2,c1_3,c1_4,c1_5,c1_6,c1_7,c1_8,c1_9,c1_10,c1_11,c1_12⟩:=oY g1
 go_wp2_with fail
 refine (jW i _ hk fp fs).mono ?_
 rintro e w2 ⟨rfl,g2⟩
 go_wp2
 go_ret
 exact ⟨rfl,G1.out.trans g2⟩
theorem aCN (s:Int)(i:It)(m:Mk)(ai ao:Option Addr)(ni ci no co:Nat)(w:World)(h0:0<=i.sh)(h1:i.sh<=255)(h2:0<=i.nu)(h3:i.nu<=65535):
  Calls prog 153 #[rv 2 s i m (.slice ai ni ci) (.slice ao no co)] w fun e w'=>e=.returned (.string (S ([u8 2]++([u8 i.sh]++n2 i.nu))))/\w.grownBy w' none:=by
 unfold rv
 have hap:=kJ
 have hsz:=aQ
 have hln:=eX
 have h2l:=dZ
 have hil:=eV
 go_enter func153,ntmps153
 go_wp2_with fail
 refine (iP 2 _ (by omega) (by omega)).mono ?_
 rintro e w1 ⟨rfl,g1⟩
 have G1:=Hid.mk' ((World.grownBy_alloc w _ none).trans g1)
 obtain ⟨c1_0,c1_1,c1_2,c1_3,c1_4,c1_5,c1_6,c1_7,c1_8,c1_9,c1_10,c1_11,c1_12⟩:=oY g1
 have hb:=Hid.mk' (aHh i.sh h0 h1)
 have hc:=Hid.mk' (pG i.nu h2 h3)
 go_wp2_with fail
 go_region_held3 (fun w'=>w'.cell? ⟨w.heap.size,2,none⟩=some (.int .i64 i.sh)/\w'.cell? ⟨w.heap.size,3,none⟩=some (.int .i64 i.nu)/\w'.cell? ⟨w.heap.size,4,none⟩=some (.float .f32 i.pl)/\w'.cell? ⟨w.heap.size,5,none⟩=some (.float .f32 i.sp)) (go_keep)
  (first | (go_at_call_of 145 (Value.int IntKind.i64 i.sh);refine (aJE i.sh _ h0 (by omega) _ _ _ _ _ _ _ _ (by assumption)).mono ?_;rintro e wa ⟨rfl,ga,ka⟩) | (go_at_call_of 145 (Value.int IntKind.i64 i.nu);refine (aJF i.nu _ h2 (by omega) _ _ _ _ _ _ _ _ (by assumption)).mono ?_;rintro e wb ⟨rfl,gb,kb⟩))
 go_wp2
 go_ret
 refine ⟨?_,((aA G1.out).trans ga).trans gb⟩
 show Ending.returned (.string (S (u8 2::(gF 1 i.sh++gF 2 i.nu))))=_
 rw[hb.out,hc.out]
 rfl
theorem aCO (s:Int)(i:It)(m:Mk)(ai ao:Option Addr)(ni ci no co:Nat)(w:World):
  Calls prog 153 #[rv 3 s i m (.slice ai ni ci) (.slice ao no co)] w fun e w'=>e=.returned (.string (S ([u8 3])))/\w.grownBy w' none:=by
 unfold rv
 have hap:=kJ
 have hsz:=aQ
 have hln:=eX
 have h2l:=dZ
 have hil:=eV
 go_enter func153,ntmps153
 go_wp2_with fail
 refine (iP 3 _ (by omega) (by omega)).mono ?_
 rintro e w1 ⟨rfl,g1⟩
 have G1:=Hid.mk' ((World.grownBy_alloc w _ none).trans g1)
 obtain ⟨c1_0,c1_1,c1_2,c1_3,c1_4,c1_5,c1_6,c1_7,c1_8,c1_9,c1_10,c1_11,c1_12⟩:=oY g1
 clear hap hsz hln h2l hil
 go_wp2
 go_ret
 exact ⟨rfl,G1.out⟩
theorem aCP (s:Int)(i:It)(m:Mk)(ai ao:Option Addr)(ni ci no co:Nat)(w:World)(h0:0<=s)(h1:s<=65535)(hk:ItOk i)(fp:bB i.pl=true)(fs:bB i.sp=true):
  Calls prog 153 #[rv 4 s i m (.slice ai ni ci) (.slice ao no co)] w fun e w'=>e=.returned (.string (S ([u8 4]++n2 s++gZ i)))/\w.grownBy w' none:=by
 unfold rv
 have hap:=kJ
 have hsz:=aQ
 have hln:=eX
 have h2l:=dZ
 have hil:=eV
 go_enter func153,ntmps153
 go_wp2_with fail
 refine (iP 4 _ (by omega) (by omega)).mono ?_
 rintro e w1 ⟨rfl,g1⟩
 have G1:=Hid.mk' ((World.grownBy_alloc w _ none).trans g1)
 obtain ⟨c1_0,c1_1,c1_2,c1_3,c1_4,c1_5,c1_6,c1_7,c1_8,c1_9,c1_10,c1_11,c1_12⟩:=oY g1
 have hc:=Hid.mk' (pG s h0 h1)
 go_wp2_with fail
 go_region_held3 (fun w'=>w'.cell? ⟨w.heap.size,1,none⟩=some (.int .i64 s)/\w'.cell? ⟨w.heap.size,2,none⟩=some (.int .i64 i.sh)/\w'.cell? ⟨w.heap.size,3,none⟩=some (.int .i64 i.nu)/\w'.cell? ⟨w.heap.size,4,none⟩=some (.float .f32 i.pl)/\w'.cell? ⟨w.heap.size,5,none⟩=some (.float .f32 i.sp)) (go_keep)
  (first | (go_at_call 145;refine (aFh s _ h0 (by omega) _ _ _ _ _ _ _ _ _ _ (by assumption)).mono ?_;rintro e wa ⟨rfl,ga,ka⟩) | (go_at_call 181;refine (aFi i _ hk fp fs _ _ _ _ _ _ _ _ _ _ (by assumption)).mono ?_;rintro e wb ⟨rfl,gb,kb⟩))
 go_wp2
 go_ret
 refine ⟨?_,((aA G1.out).trans ga).trans gb⟩
 rw[<- hc.out]
 simp
theorem aCQ (s:Int)(i:It)(m:Mk)(ai ao:Option Addr)(ni ci no co:Nat)(w:World)(h0:0<=s)(h1:s<=65535)(hk:ItOk i)(fp:bB i.pl=true)(fs:bB i.sp=true):
  Calls prog 153 #[rv 7 s i m (.slice ai ni ci) (.slice ao no co)] w fun e w'=>e=.returned (.string (S ([u8 7]++n2 s++gZ i)))/\w.grownBy w' none:=by
 unfold rv
 have hap:=kJ
 have hsz:=aQ
 have hln:=eX
 have h2l:=dZ
 have hil:=eV
 go_enter func153,ntmps153
 go_wp2_with fail
 refine (iP 7 _ (by omega) (by omega)).mono ?_
 rintro e w1 ⟨rfl,g1⟩
 have G1:=Hid.mk' ((World.grownBy_alloc w _ none).trans g1)
 obtain ⟨c1_0,c1_1,c1_2,c1_3,c1_4,c1_5,c1_6,c1_7,c1_8,c1_9,c1_10,c1_11,c1_12⟩:=oY g1
 have hc:=Hid.mk' (pG s h0 h1)
 go_wp2_with fail
 go_region_held3 (fun w'=>w'.cell? ⟨w.heap.size,1,none⟩=some (.int .i64 s)/\w'.cell? ⟨w.heap.size,2,none⟩=some (.int .i64 i.sh)/\w'.cell? ⟨w.heap.size,3,none⟩=some (.int .i64 i.nu)/\w'.cell? ⟨w.heap.size,4,none⟩=some (.float .f32 i.pl)/\w'.cell? ⟨w.heap.size,5,none⟩=some (.float .f32 i.sp)) (go_keep)
  (first | (go_at_call 145;refine (aFh s _ h0 (by omega) _ _ _ _ _ _ _ _ _ _ (by assumption)).mono ?_;rintro e wa ⟨rfl,ga,ka⟩) | (go_at_call 181;refine (aFi i _ hk fp fs _ _ _ _ _ _ _ _ _ _ (by assumption)).mono ?_;rintro e wb ⟨rfl,gb,kb⟩))
 go_wp2
 go_ret
 refine ⟨?_,((aA G1.out).trans ga).trans gb⟩
 rw[<- hc.out]
 simp
theorem aCR (s:Int)(i:It)(m:Mk)(ai ao:Option Addr)(ni ci no co:Nat)(w:World)(h0:0<=s)(h1:s<=65535):
  Calls prog 153 #[rv 5 s i m (.slice ai ni ci) (.slice ao no co)] w fun e w'=>e=.returned (.string (S ([u8 5]++n2 s)))/\w.grownBy w' none:=by
 unfold rv
 have hap:=kJ
 have hsz:=aQ
 have hln:=eX
 have h2l:=dZ
 have hil:=eV
 go_enter func153,ntmps153
 go_wp2_with fail
 refine (iP 5 _ (by omega) (by omega)).mono ?_
 rintro e w1 ⟨rfl,g1⟩
 have G1:=Hid.mk' ((World.grownBy_alloc w _ none).trans g1)
 obtain ⟨c1_0,c1_1,c1_2,c1_3,c1_4,c1_5,c1_6,c1_7,c1_8,c1_9,c1_10,c1_11,c1_12⟩:=oY g1
 go_wp2_with fail
 refine (aBN s _ h0 h1).mono ?_
 rintro e w2 ⟨rfl,g2⟩
 go_wp2
 go_ret
 exact ⟨rfl,G1.out.trans g2⟩
theorem aCS (s:Int)(i:It)(m:Mk)(ai ao:Option Addr)(ni ci no co:Nat)(w:World)(h0:0<=s)(h1:s<=65535):
  Calls prog 153 #[rv 8 s i m (.slice ai ni ci) (.slice ao no co)] w fun e w'=>e=.returned (.string (S ([u8 8]++n2 s)))/\w.grownBy w' none:=by
 unfold rv
 have hap:=kJ
 have hsz:=aQ
 have hln:=eX
 have h2l:=dZ
 have hil:=eV
 go_enter func153,ntmps153
 go_wp2_with fail
 refine (iP 8 _ (by omega) (by omega)).mono ?_
 rintro e w1 ⟨rfl,g1⟩
 have G1:=Hid.mk' ((World.grownBy_alloc w _ none).trans g1)
 obtain ⟨c1_0,c1_1,c1_2,c1_3,c1_4,c1_5,c1_6,c1_7,c1_8,c1_9,c1_10,c1_11,c1_12⟩:=oY g1
 go_wp2_with fail
 refine (aBN s _ h0 h1).mono ?_
 rintro e w2 ⟨rfl,g2⟩
 go_wp2
 go_ret
 exact ⟨rfl,G1.out.trans g2⟩
theorem aIU (n:Int)(w:World)(h0:0<=n)(h1:n<=4294967295)(p0 p1 p2 p3 p4 p5:Addr)(v0 v1 v2 v3 v4 v5:Value)(h:w.cell? p0=some v0/\w.cell? p1=some v1/\w.cell? p2=some v2/\w.cell? p3=some v3/\w.cell? p4=some v4/\w.cell? p5=some v5):
  Calls prog 145 #[.int .i64 n,.int .i64 1] w fun e w'=>e=.returned (.string (S (gF 1 n)))/\w.grownBy w' none/\w'.cell? p0=some v0/\w'.cell? p1=some v1/\w'.cell? p2=some v2/\w'.cell? p3=some v3/\w'.cell? p4=some v4/\w'.cell? p5=some v5:=by
 refine (dA n 1 w h0 h1 (by omega)).mono ?_
 rintro e w' ⟨he,g⟩
 exact ⟨he,g,g.cell h.1 (by simp),g.cell h.2.1 (by simp),g.cell h.2.2.1 (by simp),g.cell h.2.2.2.1 (by simp),g.cell h.2.2.2.2.1 (by simp),g.cell h.2.2.2.2.2 (by simp)⟩
theorem aCT (is:List It):(is.flatMap gZ).length=11 * is.length:=by
 induction is with
 | nil=>rfl
 | cons a t ih=>rw[List.flatMap_cons,List.length_append,ih,eV,List.length_cons];omega
theorem aFj (e:En):(lJ e).length=13:=rfl
theorem aCU (es:List En):(es.flatMap lJ).length=13 * es.length:=by
 induction es with
 | nil=>rfl
 | cons a t ih=>rw[List.flatMap_cons,List.length_append,ih,aFj,List.length_cons];omega
theorem aJJ (is:List It)(k:Nat)(h:k<is.length):(is.take (k+1)).flatMap gZ=(is.take k).flatMap gZ++gZ is[k]:=by
 rw[List.take_succ_eq_append_getElem h,List.flatMap_append,List.flatMap_singleton]
theorem aJK (es:List En)(k:Nat)(h:k<es.length):(es.take (k+1)).flatMap lJ=(es.take k).flatMap lJ++lJ es[k]:=by
 rw[List.take_succ_eq_append_getElem h,List.flatMap_append,List.flatMap_singleton]
structure ItF (i:It):Prop where
 k:ItOk i
 p:bB i.pl=true
 s:bB i.sp=true
theorem aCV (m:Mk)(n:Nat)(h:MkOk m)(hn:n<=16):u8 6::(gF 2 m.g++(gF 2 m.m++(gF 2 m.s++(gF 2 m.a++(gF 2 m.n++gF 1 (n:Int))))))=[u8 6]++tM m++[u8 (n:Int)]:=by
 rw[pG _ h.g0 h.g1,pG _ h.m0 h.m1,pG _ h.s0 h.s1,pG _ h.a0 h.a1,pG _ h.n0 h.n1,aHh _ (by omega) (by omega)]
 simp[tM]
theorem aCW (s:Int)(i:It)(m:Mk)(is:List It)(es:List En)(vi vo:Value)(w:World)(hi:bH w vi is)(ho:bL w vo es)(hn:is.length<=16)(hno:es.length<=8)(hm:MkOk m)(hI:∀i∈is,ItF i)(hE:∀e∈es,0<=e.sq/\e.sq<=65535/\ItF e.it):
  Calls prog 153 #[rv 6 s i m vi vo] w fun e w'=>e=.returned (.string (S ([u8 6]++tM m++pB is++qF es)))/\w.grownBy w' none:=by
 obtain ⟨ai,ci,rfl,hxi⟩:=hi
 obtain ⟨ao,co,rfl,hxo⟩:=ho
 have HI:=Hid.mk' hxi
 have HO:=Hid.mk' hxo
 have XI:=Hid.mk' hI
 have XE:=Hid.mk' hE
 clear hxi hxo hI hE
 obtain ⟨n,hL⟩:∃n,is.length=n:=⟨_,rfl⟩
 obtain ⟨no,hLo⟩:∃n,es.length=n:=⟨_,rfl⟩
 have HR:Hid ([u8 6]++tM m++pB is++qF es=[u8 6]++tM m++[u8 n]++is.flatMap gZ++[u8 no]++es.flatMap lJ):=by
  show _=_
  simp[pB,qF,hL,hLo]
 obtain ⟨R,hR⟩:∃R,[u8 6]++tM m++pB is++qF es=R:=⟨_,rfl⟩
 rw[hR] at HR ⊢
 clear hR
 rw[hL] at hn ⊢
 rw[hLo] at hno ⊢
 have HL:Hid (is.length=n):=hL
 have HLo:Hid (es.length=no):=hLo
 clear hL hLo
 unfold rv
 have hap:=kJ
 have hsz:=aQ
 have hln:=eX
 have q0:=hm.g0
 have q1:=hm.g1
 have q2:=hm.m0
 have q3:=hm.m1
 have q4:=hm.s0
 have q5:=hm.s1
 have q6:=hm.a0
 have q7:=hm.a1
 have q8:=hm.n0
 have q9:=hm.n1
 have HB:=Hid.mk' (aCV m n hm hn)
 go_enter func153,ntmps153
 go_wp2_with fail
 refine (iP 6 _ (by omega) (by omega)).mono ?_
 rintro e w1 ⟨rfl,g1⟩
 have G1:=Hid.mk' ((World.grownBy_alloc w _ none).trans g1)
 have z1:=g1.size
 simp at z1
 have c6:=gC g1 w.heap.size 6 (.int .i64 m.g)
 have c7:=gC g1 w.heap.size 7 (.int .i64 m.m)
 have c8:=gC g1 w.heap.size 8 (.int .i64 m.s)
 have c9:=gC g1 w.heap.size 9 (.int .i64 m.a)
 have c10:=gC g1 w.heap.size 10 (.int .i64 m.n)
 have c0:=gC g1 w.heap.size 0 (.int .i64 6)
 have c11:=gC g1 w.heap.size 11 (.slice ai n ci)
 have c12:=gC g1 w.heap.size 12 (.slice ao no co)
 have x1:w.heap.size≠w1.heap.size:=by omega
 have x2:w.heap.size<w1.heap.size:=by omega
 clear g1
 go_wp2_with fail
 go_region_held3 (fun w'=>w'.cell? ⟨w1.heap.size,0,none⟩=some (.int .i64 m.g)/\w'.cell? ⟨w1.heap.size,1,none⟩=some (.int .i64 m.m)/\w'.cell? ⟨w1.heap.size,2,none⟩=some (.int .i64 m.s)/\w'.cell? ⟨w1.heap.size,3,none⟩=some (.int .i64 m.a)/\w'.cell? ⟨w1.heap.size,4,none⟩=some (.int .i64 m.n)/\w'.cell? ⟨w.heap.size,11,none⟩=some (.slice ai n ci)) (go_keep)
  (first | (go_at_call_of 145 (Value.int IntKind.i64 m.g);refine (pJ m.g _ q0 (by omega) _ _ _ _ _ _ _ _ _ _ _ _ (by assumption)).mono ?_;rintro e wa ⟨rfl,ga,ka⟩) | (go_at_call_of 145 (Value.int IntKind.i64 m.m);refine (pJ m.m _ q2 (by omega) _ _ _ _ _ _ _ _ _ _ _ _ (by assumption)).mono ?_;rintro e wb ⟨rfl,gb,kb⟩) | (go_at_call_of 145 (Value.int IntKind.i64 m.s);refine (pJ m.s _ q4 (by omega) _ _ _ _ _ _ _ _ _ _ _ _ (by assumption)).mono ?_;rintro e wc ⟨rfl,gc,kc⟩) | (go_at_call_of 145 (Value.int IntKind.i64 m.a);refine (pJ m.a _ q6 (by omega) _ _ _ _ _ _ _ _ _ _ _ _ (by assumption)).mono ?_;rintro e wd ⟨rfl,gd,kd⟩) | (go_at_call_of 145 (Value.int IntKind.i64 m.n);refine (pJ m.n _ q8 (by omega) _ _ _ _ _ _ _ _ _ _ _ _ (by assumption)).mono ?_;rintro e we ⟨rfl,ge,ke⟩) | (go_at_call_of 145 (Value.int IntKind.i64 (n:Int));refine (aIU (n:Int) _ (by omega) (by omega) _ _ _ _ _ _ _ _ _ _ _ _ (by assumption)).mono ?_;rintro e wf ⟨rfl,gf,kf⟩))
 have GF:=Hid.mk' ((((((aA (World.grownBy_alloc w1 (.cells #[.int .i64 m.g,.int .i64 m.m,.int .i64 m.s,.int .i64 m.a,.int .i64 m.n] 44) none)).trans ga).trans gb).trans gc).trans gd).trans ge |>.trans gf)
 have hA0:(u8 6::(gF 2 m.g++(gF 2 m.m++(gF 2 m.s++(gF 2 m.a++(gF 2 m.n++gF 1 (n:Int))))))).length=12:=by simp[eX]
 have HA:Hid ((u8 6::(gF 2 m.g++(gF 2 m.m++(gF 2 m.s++(gF 2 m.a++(gF 2 m.n++gF 1 (n:Int))))))++is.flatMap gZ)++[u8 no]++es.flatMap lJ=R):=by
  show _=_
  rw[HR.out,HB.out]
 generalize (u8 6::(gF 2 m.g++(gF 2 m.m++(gF 2 m.s++(gF 2 m.a++(gF 2 m.n++gF 1 (n:Int)))))))=A0 at *
 have k11:∀w',wf.grownBy w' none->w'.cell? ⟨w.heap.size,11,none⟩=some (.slice ai n ci)/\w'.cell? ⟨w.heap.size,12,none⟩=some (.slice ao no co):=fun w' g=>⟨(GF.out.trans g).cell c11 (by simp),(GF.out.trans g).cell c12 (by simp)⟩
 have W0:=Hid.mk' (G1.out.trans GF.out)
 clear ka kb kc kd ke kf ga gb gc gd ge gf c0 c6 c7 c8 c9 c10 c11 c12 GF G1 x1 x2 z1 HB HR hm q0 q1 q2 q3 q4 q5 q6 q7 q8 q9 hln
 go_wp2_with fail
 go_loopw [3,5] (fun t v wr=>∃k:Nat,k<=n/\v=.int .i64 k/\wf.grownBy wr none/\t=.string (S (A0++(is.take k).flatMap gZ))) (fun _ v _=>n -(intOf v).toNat)
 case atStart=>exact ⟨0,by omega,rfl,aD _ _,by simp⟩
 case round=>
  obtain ⟨k,hk,rfl,gk,rfl⟩:=hrel
  obtain ⟨r11,r12⟩:=k11 _ gk
  have GK:=Hid.mk' gk
  clear gk
  have hfl:((is.take k).flatMap gZ).length=11 * k:=by rw[aCT,List.length_take,HL.out,Nat.min_eq_left hk]
  by_cases hlt:k<n
  ·have hkl:k<is.length:=by rw[HL.out];exact hlt
   obtain ⟨x,hx⟩:∃x,is[k]=x:=⟨_,rfl⟩
   have HT:=Hid.mk' (aJJ is k hkl)
   rw[hx] at HT
   have hxF:=XI.out x (by rw[<- hx];exact List.getElem_mem _)
   obtain ⟨g,off,rfl,hc⟩:=HI.out (by omega)
   have dd:∀j (hj:j<4) u,x.cells[j]?=some u->wr.cell? ⟨g,off+k * 4+j,none⟩=some u:=fun j hj u hu=>by
    have:=hc (4 * k+j) u (by rw[cQ is k j hkl hj,hx];exact hu)
    rw[show off+(4 * k+j)=off+k * 4+j by omega] at this
    exact (W0.out.trans GK.out).cell this (by simp)
   clear hc
   have d0:=dd 0 (by omega) _ rfl
   have d1:=dd 1 (by omega) _ rfl
   have d2:=dd 2 (by omega) _ rfl
   have d3:=dd 3 (by omega) _ rfl
   rw[Nat.add_zero] at d0
   clear dd
   have hil:=eV x
   generalize (is.take k).flatMap gZ=F at *
   go_wp2_with fail
   refine (jW x _ hxF.k hxF.p hxF.s).mono ?_
   rintro e w2 ⟨rfl,g2⟩
   go_wp2_with fail
   refine ⟨⟨k+1,by omega,by go_num,GK.out.trans g2,?_⟩,by simp[intOf];omega⟩
   rw[HT.out]
  ·have HT:Hid ((is.take k).flatMap gZ=is.flatMap gZ):=by show _=_;rw[List.take_of_length_le (by rw[HL.out];omega)]
   rw[HT.out] at hfl ⊢
   have hFl:(is.flatMap gZ).length=11 * n:=by omega
   generalize is.flatMap gZ=F at *
   clear hfl HT XI HI
   go_wp2_with fail
   refine (iP (no:Int) _ (by omega) (by omega)).mono ?_
   rintro e w2 ⟨rfl,g2⟩
   obtain ⟨s11,s12⟩:=k11 _ (GK.out.trans g2)
   have G2:=Hid.mk' (GK.out.trans g2)
   clear r11 r12 g2 GK
   go_wp2_with fail
   have hA1:(A0++(F++[u8 (no:Int)])).length=13+11 * n:=by simp;omega
   have HA3:Hid (A0++(F++[u8 (no:Int)])++es.flatMap lJ=R):=by show _=_;rw[<- HA.out];simp
   clear HA hA0 hFl
   generalize A0++(F++[u8 (no:Int)])=A1 at *
   go_loopw [3,6] (fun t v wr=>∃k:Nat,k<=no/\v=.int .i64 k/\wf.grownBy wr none/\t=.string (S (A1++(es.take k).flatMap lJ))) (fun _ v _=>no -(intOf v).toNat)
   case atStart=>exact ⟨0,by omega,rfl,G2.out,by simp⟩
   case round=>
    obtain ⟨k,hk,rfl,gk,rfl⟩:=hrel
    clear s11 s12
    obtain ⟨r11,r12⟩:=k11 _ gk
    have GK:=Hid.mk' gk
    clear gk
    have hfl:((es.take k).flatMap lJ).length=13 * k:=by rw[aCU,List.length_take,HLo.out,Nat.min_eq_left hk]
    by_cases hlt:k<no
    ·have hkl:k<es.length:=by rw[HLo.out];exact hlt
     obtain ⟨x,hx⟩:∃x,es[k]=x:=⟨_,rfl⟩
     have HT:=Hid.mk' (aJK es k hkl)
     rw[hx] at HT
     have hxF:=XE.out x (by rw[<- hx];exact List.getElem_mem _)
     obtain ⟨g,off,rfl,hc⟩:=HO.out (by omega)
     have dd:∀j (hj:j<5) u,x.cells[j]?=some u->wr.cell? ⟨g,off+k * 5+j,none⟩=some u:=fun j hj u hu=>by
      have:=hc (5 * k+j) u (by rw[dY es k j hkl hj,hx];exact hu)
      rw[show off+(5 * k+j)=off+k * 5+j by omega] at this
      exact (W0.out.trans GK.out).cell this (by simp)
     clear hc
     have d0:=dd 0 (by omega) _ rfl
     have d1:=dd 1 (by omega) _ rfl
     have d2:=dd 2 (by omega) _ rfl
     have d3:=dd 3 (by omega) _ rfl
     have d4:=dd 4 (by omega) _ rfl
     rw[Nat.add_zero] at d0
     clear dd
     obtain ⟨sq,it⟩:=x
     have hil:=eV it
     obtain ⟨hs0,hs1,hF⟩:=hxF
     have hb2:=Hid.mk' (pG sq hs0 hs1)
     have hln:=eX 2 sq
     generalize (es.take k).flatMap lJ=F at *
     have hadd1:=fun w=>run_string_add_sum (P:=prog) w (S (A1++F)) (S (gF 2 sq)) (by rw[aQ,aQ,List.length_append];omega)
     have hadd2:=fun w=>run_string_add_sum (P:=prog) w (S (A1++(F++gF 2 sq))) (S (gZ it)) (by rw[aQ,aQ,List.length_append,List.length_append];omega)
     have y0:(0:Int)<=(k:Int):=by omega
     have y1:(k:Int)<(no:Int):=by omega
     go_wp2_with fail
     go_region_held3 (fun w'=>w'.cell? ⟨w.heap.size,12,none⟩=some (.slice (some ⟨g,off,none⟩) no co)/\w'.cell? ⟨g,off+k * 5,none⟩=some (.int .i64 sq)/\w'.cell? ⟨g,off+k * 5+1,none⟩=some (.int .i64 it.sh)/\w'.cell? ⟨g,off+k * 5+2,none⟩=some (.int .i64 it.nu)/\w'.cell? ⟨g,off+k * 5+3,none⟩=some (.float .f32 it.pl)/\w'.cell? ⟨g,off+k * 5+4,none⟩=some (.float .f32 it.sp)) (go_keep)
      (first | (go_at_call 145;refine (pJ sq _ hs0 (by omega) _ _ _ _ _ _ _ _ _ _ _ _ (by assumption)).mono ?_;rintro e wa ⟨rfl,ga,ka⟩) | (go_at_call 181;refine (aIT it _ hF.k hF.p hF.s _ _ _ _ _ _ _ _ _ _ _ _ (by assumption)).mono ?_;rintro e wb ⟨rfl,gb,kb⟩))
     all_goals
      go_wp2_with fail
      refine ⟨⟨k+1,by omega,by go_num,by first | exact ((aA GK.out).trans ga).trans gb | exact ((aA GK.out).trans gb).trans ga,?_⟩,by simp[intOf];omega⟩
      rw[HT.out,lJ,<- hb2.out]
    ·have HT:Hid ((es.take k).flatMap lJ=es.flatMap lJ):=by show _=_;rw[List.take_of_length_le (by rw[HLo.out];omega)]
     rw[HT.out] at hfl ⊢
     rw[HA3.out]
     go_wp2
     go_ret
     exact ⟨rfl,W0.out.trans GK.out⟩
theorem aJY {p:Option It}{is:List It}(h:qV p is=true)(wf:∀i∈is,WfIt i):∀i∈is,ItF i:=fun i hi=>by
 have hb:=uU h i hi
 refine ⟨iF hb (wf i hi),?_,?_⟩
 ·simp only[eF,Bool.and_eq_true] at hb;exact hZ hb.1.2
 ·simp only[eF,Bool.and_eq_true] at hb;exact hZ hb.2
theorem vK {i:It}(hb:eF i=true)(wf:WfIt i):ItF i:=by
 refine ⟨iF hb wf,?_,?_⟩
 ·simp only[eF,Bool.and_eq_true] at hb;exact hZ hb.1.2
 ·simp only[eF,Bool.and_eq_true] at hb;exact hZ hb.2
theorem xN (r:Rc)(vi vo:Value)(w:World)(hi:bH w vi r.items)(ho:bL w vo r.outs)(hm:aP r=true)(wf:WfR r):
  Calls prog 153 #[rv r.kind r.seq r.it r.mks vi vo] w fun e w'=>e=.returned (.string (S (cG r)))/\w.grownBy w' none:=by
 obtain ⟨K,s,i,m,is,es⟩:=r
 have hk:=rC hm
 simp only at hk hi ho ⊢
 by_cases h6:K=6
 ·subst h6
  have hm':=hm
  simp[aP,gY,gK,lA] at hm
  obtain ⟨_,⟨hmk,hn,hci⟩,hno,hce⟩:=hm
  have hE:∀e∈es,0<=e.sq/\e.sq<=65535/\ItF e.it:=fun e he=>by
   have h1:=jQ hce e he
   have h2:=bU h1.1
   exact ⟨h2.1,h2.2,vK h1.2 (wf.outs e he)⟩
  refine (aCW s i m is es vi vo w hi ho hn hno (zZ hmk) (aJY hci wf.items) hE).mono ?_
  rintro e w' ⟨rfl,g⟩
  exact ⟨rfl,g⟩
 ·obtain ⟨ai,ci,rfl,_⟩:=hi
  obtain ⟨ao,co,rfl,_⟩:=ho
  rcases hk with rfl | rfl | rfl | rfl | rfl | rfl | rfl | rfl
  ·simp[aP] at hm
   have hF:=vK hm.1.2 wf.it
   exact aCM s i m ai ao _ ci _ co w hF.k hF.p hF.s
  ·simp[aP] at hm
   have hh:=jZ hm.1.1.2
   exact aCN s i m ai ao _ ci _ co w hh.1 (by omega) (by omega) hh.2.2.2
  ·exact aCO s i m ai ao _ ci _ co w
  ·simp[aP] at hm
   have hF:=vK hm.1.2 wf.it
   have hs:=bU hm.1.1.2
   exact aCP s i m ai ao _ ci _ co w hs.1 hs.2 hF.k hF.p hF.s
  ·simp[aP] at hm
   have hs:=bU hm.1.1
   exact aCR s i m ai ao _ ci _ co w hs.1 hs.2
  ·exact absurd rfl h6
  ·simp[aP] at hm
   have hF:=vK hm.1.2 wf.it
   have hs:=bU hm.1.1.2
   exact aCQ s i m ai ao _ ci _ co w hs.1 hs.2 hF.k hF.p hF.s
  ·simp[aP] at hm
   have hs:=bU hm.1.1
   exact aCS s i m ai ao _ ci _ co w hs.1 hs.2
theorem vL (r:Rc)(vi vo:Value)(w:World)(hi:bH w vi r.items)(ho:bL w vo r.outs)(wf:WfIt r.it)(hni:r.items.length<=1000000000)(hno:r.outs.length<=1000000000)(hm:aP r=false):
  Calls prog 104 #[rv r.kind r.seq r.it r.mks vi vo] w fun e w'=>e=.returned (.tuple #[.string (S []),.int .i64 2])/\w.grownBy w' none:=by
 have HI:=Hid.mk' hi
 have HO:=Hid.mk' ho
 clear hi ho
 obtain ⟨K,s,i,m,is,es⟩:=r
 obtain ⟨ai,ci,rfl,_⟩:=HI.out
 obtain ⟨ao,co,rfl,_⟩:=HO.out
 unfold rv
 go_enter func104,ntmps104
 go_wp2_with fail
 refine Calls.mono (rQ ⟨K,s,i,m,is,es⟩ (.slice ai is.length ci) (.slice ao es.length co) _ (HI.out.grown (World.grownBy_alloc _ _ _)) (HO.out.grown (World.grownBy_alloc _ _ _)) wf hni hno) ?_
 rw[hm]
 rintro e w1 ⟨rfl,g1⟩
 go_wp2
 go_ret2
 exact ⟨eG rfl rfl,(World.grownBy_alloc w _ none).trans g1⟩
theorem gU (r:Rc)(vi vo:Value)(w:World)(hi:bH w vi r.items)(ho:bL w vo r.outs)(wf:WfR r)(hni:r.items.length<=1000000000)(hno:r.outs.length<=1000000000)(hm:aP r=true):
  Calls prog 104 #[rv r.kind r.seq r.it r.mks vi vo] w fun e w'=>e=.returned (.tuple #[.string (S (enc r)),.int .i64 0])/\w.grownBy w' none:=by
 have HI:=Hid.mk' hi
 have HO:=Hid.mk' ho
 have hbl:=qZ r hm
 have HM:=Hid.mk' hm
 have hsb:=qJ (cG r)
 have HE:Hid (enc r=cG r++n2 (lE (cG r))):=rfl
 obtain ⟨B,hB⟩:∃B,cG r=B:=⟨_,rfl⟩
 have HBd:=Hid.mk' hB
 rw[hB] at hbl hsb HE
 clear hi ho hm hB
 have WF:=Hid.mk' wf
 clear wf
 obtain ⟨ai,ci,hvi,_⟩:=HI.out
 obtain ⟨ao,co,hvo,_⟩:=HO.out
 subst hvi hvo
 have cf:=fun w' (g:w.grownBy w' none)=>rQ r _ _ w' (HI.out.grown g) (HO.out.grown g) WF.out.it hni hno
 have cb:=fun w' (g:w.grownBy w' none)=>xN r _ _ w' (HI.out.grown g) (HO.out.grown g) HM.out WF.out
 rw[HM.out] at cf
 rw[HBd.out] at cb
 have CF:=Hid.mk' cf
 have CB:=Hid.mk' cb
 clear cf cb HI HO
 obtain ⟨E,hE⟩:∃E,enc r=E:=⟨_,rfl⟩
 rw[hE] at HE ⊢
 clear hE HBd HM WF
 obtain ⟨K,s,i,m,is,es⟩:=r
 unfold rv at CF CB ⊢
 have hap:=kJ
 have hsz:=aQ
 have hln:=eX
 have hb2:=Hid.mk' (pG (lE B) hsb.1 (by omega))
 go_enter func104,ntmps104
 go_wp2_with fail
 refine Calls.mono (CF.out _ (World.grownBy_alloc _ _ _)) ?_
 rintro e w1 ⟨rfl,g1⟩
 have G1:=Hid.mk' ((World.grownBy_alloc w _ none).trans g1)
 obtain ⟨c0,c1,c2,c3,c4,c5,c6,c7,c8,c9,c10,c11,c12⟩:=oY g1
 go_wp2_with fail
 refine Calls.mono (CB.out _ G1.out) ?_
 rintro e w2 ⟨rfl,g2⟩
 go_wp2_with fail
 refine Calls.mono (aAj B _ (by unfold maxLen;omega)) ?_
 rintro e w3 ⟨rfl,rfl⟩
 go_wp2_with fail
 refine Calls.mono (dA (lE B) 2 _ hsb.1 (by omega) (by omega)) ?_
 rintro e w4 ⟨rfl,g4⟩
 go_wp2
 go_ret2
 exact ⟨eG (by show Value.string (S (B++gF 2 (lE B)))=_;rw[hb2.out,<- HE.out]) rfl,(G1.out.trans g2).trans g4⟩
def lG (r:Rc):List UInt8:=if aP r=true then enc r else []
def eZ (r:Rc):Int:=if aP r=true then 0 else 2
theorem dC (r:Rc)(vi vo:Value)(w:World)(hi:bH w vi r.items)(ho:bL w vo r.outs)(wf:WfR r)(hni:r.items.length<=1000000000)(hno:r.outs.length<=1000000000):
  Calls prog 104 #[rv r.kind r.seq r.it r.mks vi vo] w fun e w'=>e=.returned (.tuple #[.string (S (lG r)),.int .i64 (eZ r)])/\w.grownBy w' none:=by
 unfold lG eZ
 cases hm:aP r
 ·exact vL r vi vo w hi ho wf.it hni hno hm
 ·exact gU r vi vo w hi ho wf hni hno hm
def fx (n:Nat):Nat:=if bB n=true then n else 0
def jG (i:It):It:=⟨i.sh,i.nu,fx i.pl,fx i.sp⟩
def sX (i:It):Bool:=bB i.pl&&bB i.sp
theorem rR {i:It}(h:sX i=true):jG i=i:=by
 simp only[sX,Bool.and_eq_true] at h
 simp[jG,fx,h.1,h.2]
theorem mZ (n:Nat)(h:n<4294967296):fx n<4294967296:=by unfold fx;split<;>omega
theorem rS {i:It}(h:sX i=false):eF i=false:=by
 rw[Bool.eq_false_iff]
 intro hb
 simp only[eF,Bool.and_eq_true] at hb
 have:sX i=true:=by simp only[sX,Bool.and_eq_true];exact ⟨hZ hb.1.2,hZ hb.2⟩
 rw[this] at h
 exact absurd h (by decide)
theorem aFk (n:Nat)(w:World)(hn:n<4294967296):
  Calls prog 182 #[.int .i64 (n:Int)] w fun e w'=>e=.returned (.tuple #[.float .f32 (fx n),.bool (bB n)])/\w'=w:=by
 unfold fx
 cases hf:bB n
 ·have hf':¬n % 2147483648<2139095040:=of_decide_eq_false hf
  exact aEU n hn (by omega) w
 ·have hf':n % 2147483648<2139095040:=of_decide_eq_true hf
  exact aCI n hn (by omega) w
theorem aHr (l:List UInt8)(a:Nat):fU (l.drop a)=⟨eH l a 1,eH l (a+1) 2,(eH l (a+3) 4).toNat,(eH l (a+7) 4).toNat⟩:=by
 rw[oE,rG,aJA,aJA]
 have e:∀k,(l.drop a).drop k=l.drop (a+k):=fun k=>by rw[List.drop_drop]
 simp only[fU,t4,t2,eQ,List.drop_drop,Int.toNat_natCast]
theorem rd1 (l:List UInt8)(a:Nat)(w:World)(hl:l.length<=1000000000)(ha:a<=1000000000):
  Calls prog 151 #[.string (S l),.int .i64 (a:Int),.int .i64 1] w fun e w'=>e=.returned (.int .i64 (eH l a 1))/\w'=w:=jU l a 1 w hl ha (by omega)
theorem rd2 (l:List UInt8)(a:Nat)(w:World)(hl:l.length<=1000000000)(ha:a<=1000000000):
  Calls prog 151 #[.string (S l),.int .i64 (a:Int),.int .i64 2] w fun e w'=>e=.returned (.int .i64 (eH l a 2))/\w'=w:=jU l a 2 w hl ha (by omega)
theorem rd4 (l:List UInt8)(a:Nat)(w:World)(hl:l.length<=1000000000)(ha:a<=1000000000):
  Calls prog 151 #[.string (S l),.int .i64 (a:Int),.int .i64 4] w fun e w'=>e=.returned (.int .i64 (((eH l a 4).toNat:Nat):Int))/\w'=w:=by
 rw[Int.toNat_of_nonneg (pH l a 4 (by omega)).1]
 exact jU l a 4 w hl ha (by omega)
theorem fF (l:List UInt8)(a:Nat)(w:World)(hl:l.length<=1000000000)(ha:a<=900000000):
  Calls prog 155 #[.string (S l),.int .i64 (a:Int)] w fun e w'=>e=.returned (.tuple #[.agg #[.int .i64 (fU (l.drop a)).sh,.int .i64 (fU (l.drop a)).nu,.float .f32 (fx (fU (l.drop a)).pl),.float .f32 (fx (fU (l.drop a)).sp)],.bool (sX (fU (l.drop a)))])/\w.grownBy w' none:=by
 have hsf:=aK
 have p3:=(pH l (a+3) 4 (by omega))
 have p7:=(pH l (a+7) 4 (by omega))
 have e1:(a:Int)+1=((a+1:Nat):Int):=by omega
 have c0:=fun w=>rd1 l a w hl (by omega)
 have c1:=fun w=>rd2 l (a+1) w hl (by omega)
 have c3:=fun w=>rd4 l (a+3) w hl (by omega)
 have c7:=fun w=>rd4 l (a+7) w hl (by omega)
 rw[show (((a+1:Nat)):Int)=(a:Int)+1 by omega] at c1
 rw[show (((a+3:Nat)):Int)=(a:Int)+3 by omega] at c3
 rw[show (((a+7:Nat)):Int)=(a:Int)+7 by omega] at c7
 rw[aHr]
 unfold sX
 simp only
 have k3:(eH l (a+3) 4).toNat<4294967296:=by omega
 have k7:(eH l (a+7) 4).toNat<4294967296:=by omega
 generalize (eH l (a+3) 4).toNat=N3 at *
 generalize (eH l (a+7) 4).toNat=N7 at *
 generalize eH l a 1=N0 at *
 generalize eH l (a+1) 2=N1 at *
 clear e1 p3 p7
 have C0:=Hid.mk' c0
 have C1:=Hid.mk' c1
 have C3:=Hid.mk' c3
 have C7:=Hid.mk' c7
 clear c0 c1 c3 c7
 go_enter func155,ntmps155
 go_wp2_with fail
 refine (C3.out _).mono ?_
 rintro e w' ⟨rfl,rfl⟩
 go_wp2_with fail
 refine (aFk N3 _ k3).mono ?_
 rintro e w' ⟨rfl,rfl⟩
 go_wp2_with fail
 refine (C7.out _).mono ?_
 rintro e w' ⟨rfl,rfl⟩
 go_wp2_with fail
 refine (aFk N7 _ k7).mono ?_
 rintro e w' ⟨rfl,rfl⟩
 go_wp2_with fail
 refine (C0.out _).mono ?_
 rintro e w' ⟨rfl,rfl⟩
 go_wp2_with fail
 refine (C1.out _).mono ?_
 rintro e w' ⟨rfl,rfl⟩
 go_wp2_with fail
 all_goals exact bodyPost_ret (v:=.tuple #[.agg #[.int .i64 N0,.int .i64 N1,.float .f32 (fx N3),.float .f32 (fx N7)],.bool (bB N3&&bB N7)]) (by simp[results,results155,go_sem, *]) rfl ⟨rfl,World.grownBy_alloc _ _ _⟩
theorem iQ {w w':World}{row:Option Nat}{k o0 o1 o2 o3 o4 o5 o6 o7 o8 o9 o10 o11 o12:Nat}{u0 u1 u2 u3 u4 u5 u6 u7 u8 u9 u10 u11 u12:Value}(h:w.grownBy w' row)(hk:w.heap.size<=k):w.grownBy (((((((((((((w'.setCell ⟨k,o0,none⟩ u0).setCell ⟨k,o1,none⟩ u1).setCell ⟨k,o2,none⟩ u2).setCell ⟨k,o3,none⟩ u3).setCell ⟨k,o4,none⟩ u4).setCell ⟨k,o5,none⟩ u5).setCell ⟨k,o6,none⟩ u6).setCell ⟨k,o7,none⟩ u7).setCell ⟨k,o8,none⟩ u8).setCell ⟨k,o9,none⟩ u9).setCell ⟨k,o10,none⟩ u10).setCell ⟨k,o11,none⟩ u11).setCell ⟨k,o12,none⟩ u12) row:=
 aB (aB (aB (aB (aB (aB (aB (aB (aB (aB (aB (aB (aB h hk _ _) hk _ _) hk _ _) hk _ _) hk _ _) hk _ _) hk _ _) hk _ _) hk _ _) hk _ _) hk _ _) hk _ _) hk _ _
theorem cU (w:World)(a b:Obj):w.grownBy ((w.alloc a).alloc b) none:=aG (World.grownBy_alloc w a none) b
theorem nL (w:World):bH w (.slice none 0 0) []:=⟨none,0,rfl,fun h=>absurd h (by simp)⟩
theorem nM (w:World):bL w (.slice none 0 0) []:=⟨none,0,rfl,fun h=>absurd h (by simp)⟩
theorem eB (w:World)(l:List UInt8)(w':World)(g:w.grownBy w' none)(h:cV l=false):dF w l (.returned (.tuple #[bQ,.int .i64 7])) w':=⟨g,.inl ⟨h,rfl⟩⟩
theorem aFl (l:List UInt8)(w:World)(hl:l.length<=1000000000)(hK:eH l 0 1=1):
  Calls prog 107 #[.string (S l)] w fun e w'=>dF w l e w':=by
 have hsf:=aK
 have hd:iC l=⟨1,0,fU (l.drop 1),aZ,[],[]⟩:=by
  have:b1 l=1:=by rw[<- hK,oE,List.drop_zero]
  rw[iC,this,aIs,eQ]
 have cR:=rd1 l 0
 rw[hK] at cR
 have cI:=fF l 1
 have hI:=lK (l.drop 1)
 generalize fU (l.drop 1)=i at *
 have HD:=Hid.mk' hd
 have CR:=Hid.mk' cR
 have CI:=Hid.mk' cI
 have WX:Hid (WfR ⟨1,0,jG i,aZ,[],[]⟩):=⟨⟨mZ _ hI.p,mZ _ hI.s⟩,by simp,by simp⟩
 clear hd cR cI hI
 go_enter func107,ntmps107
 go_wp2_with fail
 refine (CR.out _ hl (by omega)).mono ?_
 rintro e w' ⟨rfl,rfl⟩
 go_wp2_with fail
 refine (CI.out _ hl (by omega)).mono ?_
 rintro e w1 ⟨rfl,g1⟩
 have G1:=Hid.mk' ((cU w _ _).trans g1)
 have z1:=g1.size
 simp at z1
 obtain ⟨a0,a1,a2,a3,a4,a5,a6,a7,a8,a9,a10,a11,a12⟩:=qD g1 w.heap.size (.int .i64 0) (.int .i64 0) (.int .i64 0) (.int .i64 0) (.float .f32 0) (.float .f32 0) (.int .i64 0) (.int .i64 0) (.int .i64 0) (.int .i64 0) (.int .i64 0) (.slice none 0 0) (.slice none 0 0)
 obtain ⟨c0,c1,c2,c3,c4,c5,c6,c7,c8,c9,c10,c11,c12⟩:=qD g1 (w.heap.size+1) (.int .i64 1) (.int .i64 0) (.int .i64 0) (.int .i64 0) (.float .f32 0) (.float .f32 0) (.int .i64 0) (.int .i64 0) (.int .i64 0) (.int .i64 0) (.int .i64 0) (.slice none 0 0) (.slice none 0 0)
 have fa:∀o,w1.frozen? ⟨w.heap.size,o,none⟩=false:=fun o=>by
  rw[World.frozen?_of_block (a:=⟨w.heap.size,o,none⟩) (g1.block w.heap.size (by simp;omega) (by simp))];go_simp
 have fc:∀o,w1.frozen? ⟨w.heap.size+1,o,none⟩=false:=fun o=>by
  rw[World.frozen?_of_block (a:=⟨w.heap.size+1,o,none⟩) (g1.block (w.heap.size+1) (by simp) (by simp))];go_simp
 clear g1
 go_wp2_with fail
 refine Calls.mono (dC ⟨1,0,jG i,aZ,[],[]⟩ (.slice none 0 0) (.slice none 0 0) _ (nL _) (nM _) WX.out (by simp) (by simp)) ?_
 rintro e w2 ⟨rfl,g2⟩
 obtain ⟨b0,b1,b2,b3,b4,b5,b6,b7,b8,b9,b10,b11,b12⟩:=qD g2 w.heap.size (.int .i64 0) (.int .i64 0) (.int .i64 0) (.int .i64 0) (.float .f32 0) (.float .f32 0) (.int .i64 0) (.int .i64 0) (.int .i64 0) (.int .i64 0) (.int .i64 0) (.slice none 0 0) (.slice none 0 0)
 obtain ⟨r0,r1,r2,r3,r4,r5,r6,r7,r8,r9,r10,r11,r12⟩:=qD g2 (w.heap.size+1) (.int .i64 1) (.int .i64 0) (.int .i64 i.sh) (.int .i64 i.nu) (.float .f32 (fx i.pl)) (.float .f32 (fx i.sp)) (.int .i64 0) (.int .i64 0) (.int .i64 0) (.int .i64 0) (.int .i64 0) (.slice none 0 0) (.slice none 0 0)
 have fb:∀o,w2.frozen? ⟨w.heap.size,o,none⟩=false:=fun o=>by
  rw[World.frozen?_of_block (a:=⟨w.heap.size,o,none⟩) (g2.block w.heap.size (by simp;omega) (by simp))];go_simp
 have G2:=Hid.mk' ((aB (aB (aB (aB G1.out (by omega) _ _) (by omega) _ _) (by omega) _ _) (by omega) _ _).trans g2)
 clear a0 c0 a1 c1 a2 c2 a3 c3 a4 c4 a5 c5 a6 c6 a7 c7 a8 c8 a9 c9 a10 c10 a11 c11 a12 c12 fa fc g2
 cases hk:sX i
 ·go_wp2_with fail
  refine bodyPost_ret (v:=.tuple #[bQ,.int .i64 7]) (by simp[results,results107,go_sem,bQ,rv,bT,aZ, *]) rfl (eB w l _ (iQ G2.out (by omega)) ?_)
  rw[cV,HD.out];simp[aP,rS hk]
 ·have HX:Hid (iC l=⟨1,0,jG i,aZ,[],[]⟩):=by show _=_;rw[HD.out,rR hk]
  cases hm:aP ⟨1,0,jG i,aZ,[],[]⟩
  ·have hE:eZ ⟨1,0,jG i,aZ,[],[]⟩=2:=by simp[eZ,hm]
   rw[hE]
   go_wp2_with fail
   refine bodyPost_ret (v:=.tuple #[bQ,.int .i64 7]) (by simp[results,results107,go_sem,bQ,rv,bT,aZ, *]) rfl (eB w l _ (iQ G2.out (by omega)) ?_)
   rw[cV,HX.out,hm];rfl
  ·have hE:eZ ⟨1,0,jG i,aZ,[],[]⟩=0:=by simp[eZ,hm]
   have hS:lG ⟨1,0,jG i,aZ,[],[]⟩=enc ⟨1,0,jG i,aZ,[],[]⟩:=by simp[lG,hm]
   rw[hE,hS]
   have HM:=Hid.mk' hm
   obtain ⟨t,ht⟩:∃t,enc ⟨1,0,jG i,aZ,[],[]⟩=t:=⟨_,rfl⟩
   rw[ht]
   have HT:=Hid.mk' ht
   clear ht hm hE hS
   by_cases hl2:t=l
   ·subst hl2
    go_wp2_with fail
    refine bodyPost_ret (v:=.tuple #[rv 1 0 ⟨i.sh,i.nu,(fx i.pl),(fx i.sp)⟩ aZ (.slice none 0 0) (.slice none 0 0),.int .i64 0]) (by simp[results,results107,go_sem,rv,aZ, *]) rfl ⟨(iQ G2.out (by omega)),.inr ⟨?_,.slice none 0 0,.slice none 0 0,?_,?_,?_,by simp[Value.ownBlock]⟩⟩
    ·rw[cV,HX.out,HM.out,HT.out];simp
    ·rw[HX.out];rfl
    ·rw[HX.out];exact World.ownsRow_nil _ _ _ _
    ·rw[HX.out];exact World.ownsRow_nil _ _ _ _
   ·have hne:((S t).toList==(S l).toList)=false:=by rw[bW,bW];simp[hl2]
    go_wp2_with fail
    refine bodyPost_ret (v:=.tuple #[bQ,.int .i64 7]) (by simp[results,results107,go_sem,bQ,rv,bT,aZ, *]) rfl (eB w l _ (iQ G2.out (by omega)) ?_)
    rw[cV,HX.out,HM.out,HT.out];simp[hl2]
theorem aFm (l:List UInt8)(w:World)(hl:l.length<=1000000000)(hK:eH l 0 1=2):
  Calls prog 107 #[.string (S l)] w fun e w'=>dF w l e w':=by
 have hsf:=aK
 have hd:iC l=⟨2,0,⟨eH l 1 1,eH l 2 2,0,0⟩,aZ,[],[]⟩:=by
  have:b1 l=2:=by rw[<- hK,oE,List.drop_zero]
  simp only[iC,this,aIt,eQ,oE,rG,List.drop_drop]
 have cR:=rd1 l 0
 rw[hK] at cR
 have CR:=Hid.mk' cR
 clear cR
 have cS:=rd1 l 1
 have cT:=rd2 l 2
 generalize eH l 1 1=sh at *
 generalize eH l 2 2=nu at *
 have HX:=Hid.mk' hd
 have CS:=Hid.mk' cS
 have CT:=Hid.mk' cT
 have WX:Hid (WfR ⟨2,0,⟨sh,nu,0,0⟩,aZ,[],[]⟩):=⟨⟨by simp,by simp⟩,by simp,by simp⟩
 clear hd cS cT
 go_enter func107,ntmps107
 go_wp2_with fail
 refine (CR.out _ hl (by omega)).mono ?_
 rintro e w' ⟨rfl,rfl⟩
 go_wp2_with fail
 refine (CS.out _ hl (by omega)).mono ?_
 rintro e w' ⟨rfl,rfl⟩
 go_wp2_with fail
 refine (CT.out _ hl (by omega)).mono ?_
 rintro e w' ⟨rfl,rfl⟩
 go_wp2_with fail
 refine Calls.mono (dC ⟨2,0,⟨sh,nu,0,0⟩,aZ,[],[]⟩ (.slice none 0 0) (.slice none 0 0) _ (nL _) (nM _) WX.out (by simp) (by simp)) ?_
 rintro e w2 ⟨rfl,g2⟩
 obtain ⟨b0,b1,b2,b3,b4,b5,b6,b7,b8,b9,b10,b11,b12⟩:=qD g2 w.heap.size (.int .i64 0) (.int .i64 0) (.int .i64 0) (.int .i64 0) (.float .f32 0) (.float .f32 0) (.int .i64 0) (.int .i64 0) (.int .i64 0) (.int .i64 0) (.int .i64 0) (.slice none 0 0) (.slice none 0 0)
 obtain ⟨r0,r1,r2,r3,r4,r5,r6,r7,r8,r9,r10,r11,r12⟩:=qD g2 (w.heap.size+1) (.int .i64 2) (.int .i64 0) (.int .i64 sh) (.int .i64 nu) (.float .f32 0) (.float .f32 0) (.int .i64 0) (.int .i64 0) (.int .i64 0) (.int .i64 0) (.int .i64 0) (.slice none 0 0) (.slice none 0 0)
 have fb:∀o,w2.frozen? ⟨w.heap.size,o,none⟩=false:=fun o=>by
  rw[World.frozen?_of_block (a:=⟨w.heap.size,o,none⟩) (g2.block w.heap.size (by simp;omega) (by simp))];go_simp
 have G2:=Hid.mk' ((cU w _ _).trans g2)
 clear g2
 cases hm:aP ⟨2,0,⟨sh,nu,0,0⟩,aZ,[],[]⟩
 ·have hE:eZ ⟨2,0,⟨sh,nu,0,0⟩,aZ,[],[]⟩=2:=by simp[eZ,hm]
  rw[hE]
  go_wp2_with fail
  refine bodyPost_ret (v:=.tuple #[bQ,.int .i64 7]) (by simp[results,results107,go_sem,bQ,rv,bT,aZ, *]) rfl (eB w l _ (iQ G2.out (by omega)) ?_)
  rw[cV,HX.out,hm];rfl
 ·have hE:eZ ⟨2,0,⟨sh,nu,0,0⟩,aZ,[],[]⟩=0:=by simp[eZ,hm]
  have hS:lG ⟨2,0,⟨sh,nu,0,0⟩,aZ,[],[]⟩=enc ⟨2,0,⟨sh,nu,0,0⟩,aZ,[],[]⟩:=by simp[lG,hm]
  rw[hE,hS]
  have HM:=Hid.mk' hm
  obtain ⟨t,ht⟩:∃t,enc ⟨2,0,⟨sh,nu,0,0⟩,aZ,[],[]⟩=t:=⟨_,rfl⟩
  rw[ht]
  have HT:=Hid.mk' ht
  clear ht hm hE hS
  by_cases hl2:t=l
  ·subst hl2
   go_wp2_with fail
   refine bodyPost_ret (v:=.tuple #[rv 2 0 ⟨sh,nu,0,0⟩ aZ (.slice none 0 0) (.slice none 0 0),.int .i64 0]) (by simp[results,results107,go_sem,rv,aZ, *]) rfl ⟨(iQ G2.out (by omega)),.inr ⟨?_,.slice none 0 0,.slice none 0 0,?_,?_,?_,by simp[Value.ownBlock]⟩⟩
   ·rw[cV,HX.out,HM.out,HT.out];simp
   ·rw[HX.out]
   ·rw[HX.out];exact World.ownsRow_nil _ _ _ _
   ·rw[HX.out];exact World.ownsRow_nil _ _ _ _
  ·have hne:((S t).toList==(S l).toList)=false:=by rw[bW,bW];simp[hl2]
   go_wp2_with fail
   refine bodyPost_ret (v:=.tuple #[bQ,.int .i64 7]) (by simp[results,results107,go_sem,bQ,rv,bT,aZ, *]) rfl (eB w l _ (iQ G2.out (by omega)) ?_)
   rw[cV,HX.out,HM.out,HT.out];simp[hl2]
theorem aJL (K:Int)(l:List UInt8)(h1:K≠1)(h2:K≠2)(h4:K≠4)(h5:K≠5)(h6:K≠6)(h7:K≠7)(h8:K≠8):eP K l=⟨K,0,bT,aZ,[],[]⟩:=by simp[eP,h1,h2,h4,h5,h6,h7,h8]
theorem aFn (l:List UInt8)(w:World)(hl:l.length<=1000000000)(K:Int)(hK:eH l 0 1=K)(h1:K≠1)(h2:K≠2)(h4:K≠4)(h5:K≠5)(h6:K≠6)(h7:K≠7)(h8:K≠8):
  Calls prog 107 #[.string (S l)] w fun e w'=>dF w l e w':=by
 have hsf:=aK
 have hd:iC l=⟨K,0,bT,aZ,[],[]⟩:=by
  have:b1 l=K:=by rw[<- hK,oE,List.drop_zero]
  rw[iC,this,aJL K _ h1 h2 h4 h5 h6 h7 h8]
 have cR:=rd1 l 0
 rw[hK] at cR
 have CR:=Hid.mk' cR
 have HX:=Hid.mk' hd
 have WX:Hid (WfR ⟨K,0,bT,aZ,[],[]⟩):=⟨nD,by simp,by simp⟩
 clear cR hd hK
 go_enter func107,ntmps107
 go_wp2_with fail
 refine (CR.out _ hl (by omega)).mono ?_
 rintro e w' ⟨rfl,rfl⟩
 go_wp2_with fail
 refine Calls.mono (dC ⟨K,0,bT,aZ,[],[]⟩ (.slice none 0 0) (.slice none 0 0) _ (nL _) (nM _) WX.out (by simp) (by simp)) ?_
 rintro e w2 ⟨rfl,g2⟩
 obtain ⟨b0,b1,b2,b3,b4,b5,b6,b7,b8,b9,b10,b11,b12⟩:=qD g2 w.heap.size (.int .i64 0) (.int .i64 0) (.int .i64 0) (.int .i64 0) (.float .f32 0) (.float .f32 0) (.int .i64 0) (.int .i64 0) (.int .i64 0) (.int .i64 0) (.int .i64 0) (.slice none 0 0) (.slice none 0 0)
 obtain ⟨r0,r1,r2,r3,r4,r5,r6,r7,r8,r9,r10,r11,r12⟩:=qD g2 (w.heap.size+1) (.int .i64 K) (.int .i64 0) (.int .i64 0) (.int .i64 0) (.float .f32 0) (.float .f32 0) (.int .i64 0) (.int .i64 0) (.int .i64 0) (.int .i64 0) (.int .i64 0) (.slice none 0 0) (.slice none 0 0)
 have fb:∀o,w2.frozen? ⟨w.heap.size,o,none⟩=false:=fun o=>by
  rw[World.frozen?_of_block (a:=⟨w.heap.size,o,none⟩) (g2.block w.heap.size (by simp;omega) (by simp))];go_simp
 have G2:=Hid.mk' ((cU w _ _).trans g2)
 clear g2
 cases hm:aP ⟨K,0,bT,aZ,[],[]⟩
 ·have hE:eZ ⟨K,0,bT,aZ,[],[]⟩=2:=by simp[eZ,hm]
  rw[hE]
  go_wp2_with fail
  refine bodyPost_ret (v:=.tuple #[bQ,.int .i64 7]) (by simp[results,results107,go_sem,bQ,rv,bT,aZ, *]) rfl (eB w l _ (iQ G2.out (by omega)) ?_)
  rw[cV,HX.out,hm];rfl
 ·have hE:eZ ⟨K,0,bT,aZ,[],[]⟩=0:=by simp[eZ,hm]
  have hS:lG ⟨K,0,bT,aZ,[],[]⟩=enc ⟨K,0,bT,aZ,[],[]⟩:=by simp[lG,hm]
  rw[hE,hS]
  have HM:=Hid.mk' hm
  obtain ⟨t,ht⟩:∃t,enc ⟨K,0,bT,aZ,[],[]⟩=t:=⟨_,rfl⟩
  rw[ht]
  have HT:=Hid.mk' ht
  clear ht hm hE hS
  by_cases hl2:t=l
  ·subst hl2
   go_wp2_with fail
   refine bodyPost_ret (v:=.tuple #[rv K 0 ⟨0,0,0,0⟩ aZ (.slice none 0 0) (.slice none 0 0),.int .i64 0]) (by simp[results,results107,go_sem,rv,aZ, *]) rfl ⟨(iQ G2.out (by omega)),.inr ⟨?_,.slice none 0 0,.slice none 0 0,?_,?_,?_,by simp[Value.ownBlock]⟩⟩
   ·rw[cV,HX.out,HM.out,HT.out];simp
   ·rw[HX.out];rfl
   ·rw[HX.out];exact World.ownsRow_nil _ _ _ _
   ·rw[HX.out];exact World.ownsRow_nil _ _ _ _
  ·have hne:((S t).toList==(S l).toList)=false:=by rw[bW,bW];simp[hl2]
   go_wp2_with fail
   refine bodyPost_ret (v:=.tuple #[bQ,.int .i64 7]) (by simp[results,results107,go_sem,bQ,rv,bT,aZ, *]) rfl (eB w l _ (iQ G2.out (by omega)) ?_)
   rw[cV,HX.out,HM.out,HT.out];simp[hl2]
theorem aFo (l:List UInt8)(w:World)(hl:l.length<=1000000000)(hK:eH l 0 1=4):
  Calls prog 107 #[.string (S l)] w fun e w'=>dF w l e w':=by
 have hsf:=aK
 have hd:iC l=⟨4,eH l 1 2,fU (l.drop 3),aZ,[],[]⟩:=by
  have:b1 l=4:=by rw[<- hK,oE,List.drop_zero]
  simp only[iC,this,aIu,eQ,rG,t2,List.drop_drop]
 have cR:=rd1 l 0
 rw[hK] at cR
 have CR:=Hid.mk' cR
 clear cR
 have cS:=rd2 l 1
 have cI:=fF l 3
 have hI:=lK (l.drop 3)
 generalize fU (l.drop 3)=i at *
 generalize eH l 1 2=sq at *
 have HD:=Hid.mk' hd
 have CS:=Hid.mk' cS
 have CI:=Hid.mk' cI
 have WX:Hid (WfR ⟨4,sq,jG i,aZ,[],[]⟩):=⟨⟨mZ _ hI.p,mZ _ hI.s⟩,by simp,by simp⟩
 clear hd cS cI hI
 go_enter func107,ntmps107
 go_wp2_with fail
 refine (CR.out _ hl (by omega)).mono ?_
 rintro e w' ⟨rfl,rfl⟩
 go_wp2_with fail
 refine (CS.out _ hl (by omega)).mono ?_
 rintro e w' ⟨rfl,rfl⟩
 go_wp2_with fail
 refine (CI.out _ hl (by omega)).mono ?_
 rintro e w1 ⟨rfl,g1⟩
 have G1:=Hid.mk' ((cU w _ _).trans g1)
 have z1:=g1.size
 simp at z1
 obtain ⟨a0,a1,a2,a3,a4,a5,a6,a7,a8,a9,a10,a11,a12⟩:=qD g1 w.heap.size (.int .i64 0) (.int .i64 0) (.int .i64 0) (.int .i64 0) (.float .f32 0) (.float .f32 0) (.int .i64 0) (.int .i64 0) (.int .i64 0) (.int .i64 0) (.int .i64 0) (.slice none 0 0) (.slice none 0 0)
 obtain ⟨c0,c1,c2,c3,c4,c5,c6,c7,c8,c9,c10,c11,c12⟩:=qD g1 (w.heap.size+1) (.int .i64 4) (.int .i64 sq) (.int .i64 0) (.int .i64 0) (.float .f32 0) (.float .f32 0) (.int .i64 0) (.int .i64 0) (.int .i64 0) (.int .i64 0) (.int .i64 0) (.slice none 0 0) (.slice none 0 0)
 have fa:∀o,w1.frozen? ⟨w.heap.size,o,none⟩=false:=fun o=>by
  rw[World.frozen?_of_block (a:=⟨w.heap.size,o,none⟩) (g1.block w.heap.size (by simp;omega) (by simp))];go_simp
 have fc:∀o,w1.frozen? ⟨w.heap.size+1,o,none⟩=false:=fun o=>by
  rw[World.frozen?_of_block (a:=⟨w.heap.size+1,o,none⟩) (g1.block (w.heap.size+1) (by simp) (by simp))];go_simp
 clear g1
 go_wp2_with fail
 refine Calls.mono (dC ⟨4,sq,jG i,aZ,[],[]⟩ (.slice none 0 0) (.slice none 0 0) _ (nL _) (nM _) WX.out (by simp) (by simp)) ?_
 rintro e w2 ⟨rfl,g2⟩
 obtain ⟨b0,b1,b2,b3,b4,b5,b6,b7,b8,b9,b10,b11,b12⟩:=qD g2 w.heap.size (.int .i64 0) (.int .i64 0) (.int .i64 0) (.int .i64 0) (.float .f32 0) (.float .f32 0) (.int .i64 0) (.int .i64 0) (.int .i64 0) (.int .i64 0) (.int .i64 0) (.slice none 0 0) (.slice none 0 0)
 obtain ⟨r0,r1,r2,r3,r4,r5,r6,r7,r8,r9,r10,r11,r12⟩:=qD g2 (w.heap.size+1) (.int .i64 4) (.int .i64 sq) (.int .i64 i.sh) (.int .i64 i.nu) (.float .f32 (fx i.pl)) (.float .f32 (fx i.sp)) (.int .i64 0) (.int .i64 0) (.int .i64 0) (.int .i64 0) (.int .i64 0) (.slice none 0 0) (.slice none 0 0)
 have fb:∀o,w2.frozen? ⟨w.heap.size,o,none⟩=false:=fun o=>by
  rw[World.frozen?_of_block (a:=⟨w.heap.size,o,none⟩) (g2.block w.heap.size (by simp;omega) (by simp))];go_simp
 have G2:=Hid.mk' ((aB (aB (aB (aB G1.out (by omega) _ _) (by omega) _ _) (by omega) _ _) (by omega) _ _).trans g2)
 clear a0 c0 a1 c1 a2 c2 a3 c3 a4 c4 a5 c5 a6 c6 a7 c7 a8 c8 a9 c9 a10 c10 a11 c11 a12 c12 fa fc g2
 cases hk:sX i
 ·go_wp2_with fail
  refine bodyPost_ret (v:=.tuple #[bQ,.int .i64 7]) (by simp[results,results107,go_sem,bQ,rv,bT,aZ, *]) rfl (eB w l _ (iQ G2.out (by omega)) ?_)
  rw[cV,HD.out];simp[aP,rS hk]
 ·have HX:Hid (iC l=⟨4,sq,jG i,aZ,[],[]⟩):=by show _=_;rw[HD.out,rR hk]
  cases hm:aP ⟨4,sq,jG i,aZ,[],[]⟩
  ·have hE:eZ ⟨4,sq,jG i,aZ,[],[]⟩=2:=by simp[eZ,hm]
   rw[hE]
   go_wp2_with fail
   refine bodyPost_ret (v:=.tuple #[bQ,.int .i64 7]) (by simp[results,results107,go_sem,bQ,rv,bT,aZ, *]) rfl (eB w l _ (iQ G2.out (by omega)) ?_)
   rw[cV,HX.out,hm];rfl
  ·have hE:eZ ⟨4,sq,jG i,aZ,[],[]⟩=0:=by simp[eZ,hm]
   have hS:lG ⟨4,sq,jG i,aZ,[],[]⟩=enc ⟨4,sq,jG i,aZ,[],[]⟩:=by simp[lG,hm]
   rw[hE,hS]
   have HM:=Hid.mk' hm
   obtain ⟨t,ht⟩:∃t,enc ⟨4,sq,jG i,aZ,[],[]⟩=t:=⟨_,rfl⟩
   rw[ht]
   have HT:=Hid.mk' ht
   clear ht hm hE hS
   by_cases hl2:t=l
   ·subst hl2
    go_wp2_with fail
    refine bodyPost_ret (v:=.tuple #[rv 4 sq ⟨i.sh,i.nu,(fx i.pl),(fx i.sp)⟩ aZ (.slice none 0 0) (.slice none 0 0),.int .i64 0]) (by simp[results,results107,go_sem,rv,aZ, *]) rfl ⟨(iQ G2.out (by omega)),.inr ⟨?_,.slice none 0 0,.slice none 0 0,?_,?_,?_,by simp[Value.ownBlock]⟩⟩
    ·rw[cV,HX.out,HM.out,HT.out];simp
    ·rw[HX.out];rfl
    ·rw[HX.out];exact World.ownsRow_nil _ _ _ _
    ·rw[HX.out];exact World.ownsRow_nil _ _ _ _
   ·have hne:((S t).toList==(S l).toList)=false:=by rw[bW,bW];simp[hl2]
    go_wp2_with fail
    refine bodyPost_ret (v:=.tuple #[bQ,.int .i64 7]) (by simp[results,results107,go_sem,bQ,rv,bT,aZ, *]) rfl (eB w l _ (iQ G2.out (by omega)) ?_)
    rw[cV,HX.out,HM.out,HT.out];simp[hl2]
theorem aFp (l:List UInt8)(w:World)(hl:l.length<=1000000000)(hK:eH l 0 1=5):
  Calls prog 107 #[.string (S l)] w fun e w'=>dF w l e w':=by
 have hsf:=aK
 have hd:iC l=⟨5,eH l 1 2,bT,aZ,[],[]⟩:=by
  have:b1 l=5:=by rw[<- hK,oE,List.drop_zero]
  simp only[iC,this,aIw,eQ,rG]
 have cR:=rd1 l 0
 rw[hK] at cR
 have CR:=Hid.mk' cR
 clear cR
 have cS:=rd2 l 1
 generalize eH l 1 2=sq at *
 have HX:=Hid.mk' hd
 have CS:=Hid.mk' cS
 have WX:Hid (WfR ⟨5,sq,bT,aZ,[],[]⟩):=⟨nD,by simp,by simp⟩
 clear hd cS
 go_enter func107,ntmps107
 go_wp2_with fail
 refine (CR.out _ hl (by omega)).mono ?_
 rintro e w' ⟨rfl,rfl⟩
 go_wp2_with fail
 refine (CS.out _ hl (by omega)).mono ?_
 rintro e w' ⟨rfl,rfl⟩
 go_wp2_with fail
 refine Calls.mono (dC ⟨5,sq,bT,aZ,[],[]⟩ (.slice none 0 0) (.slice none 0 0) _ (nL _) (nM _) WX.out (by simp) (by simp)) ?_
 rintro e w2 ⟨rfl,g2⟩
 obtain ⟨b0,b1,b2,b3,b4,b5,b6,b7,b8,b9,b10,b11,b12⟩:=qD g2 w.heap.size (.int .i64 0) (.int .i64 0) (.int .i64 0) (.int .i64 0) (.float .f32 0) (.float .f32 0) (.int .i64 0) (.int .i64 0) (.int .i64 0) (.int .i64 0) (.int .i64 0) (.slice none 0 0) (.slice none 0 0)
 obtain ⟨r0,r1,r2,r3,r4,r5,r6,r7,r8,r9,r10,r11,r12⟩:=qD g2 (w.heap.size+1) (.int .i64 5) (.int .i64 sq) (.int .i64 0) (.int .i64 0) (.float .f32 0) (.float .f32 0) (.int .i64 0) (.int .i64 0) (.int .i64 0) (.int .i64 0) (.int .i64 0) (.slice none 0 0) (.slice none 0 0)
 have fb:∀o,w2.frozen? ⟨w.heap.size,o,none⟩=false:=fun o=>by
  rw[World.frozen?_of_block (a:=⟨w.heap.size,o,none⟩) (g2.block w.heap.size (by simp;omega) (by simp))];go_simp
 have G2:=Hid.mk' ((cU w _ _).trans g2)
 clear g2
 cases hm:aP ⟨5,sq,bT,aZ,[],[]⟩
 ·have hE:eZ ⟨5,sq,bT,aZ,[],[]⟩=2:=by simp[eZ,hm]
  rw[hE]
  go_wp2_with fail
  refine bodyPost_ret (v:=.tuple #[bQ,.int .i64 7]) (by simp[results,results107,go_sem,bQ,rv,bT,aZ, *]) rfl (eB w l _ (iQ G2.out (by omega)) ?_)
  rw[cV,HX.out,hm];rfl
 ·have hE:eZ ⟨5,sq,bT,aZ,[],[]⟩=0:=by simp[eZ,hm]
  have hS:lG ⟨5,sq,bT,aZ,[],[]⟩=enc ⟨5,sq,bT,aZ,[],[]⟩:=by simp[lG,hm]
  rw[hE,hS]
  have HM:=Hid.mk' hm
  obtain ⟨t,ht⟩:∃t,enc ⟨5,sq,bT,aZ,[],[]⟩=t:=⟨_,rfl⟩
  rw[ht]
  have HT:=Hid.mk' ht
  clear ht hm hE hS
  by_cases hl2:t=l
  ·subst hl2
   go_wp2_with fail
   refine bodyPost_ret (v:=.tuple #[rv 5 sq ⟨0,0,0,0⟩ aZ (.slice none 0 0) (.slice none 0 0),.int .i64 0]) (by simp[results,results107,go_sem,rv,aZ, *]) rfl ⟨(iQ G2.out (by omega)),.inr ⟨?_,.slice none 0 0,.slice none 0 0,?_,?_,?_,by simp[Value.ownBlock]⟩⟩
   ·rw[cV,HX.out,HM.out,HT.out];simp
   ·rw[HX.out];rfl
   ·rw[HX.out];exact World.ownsRow_nil _ _ _ _
   ·rw[HX.out];exact World.ownsRow_nil _ _ _ _
  ·have hne:((S t).toList==(S l).toList)=false:=by rw[bW,bW];simp[hl2]
   go_wp2_with fail
   refine bodyPost_ret (v:=.tuple #[bQ,.int .i64 7]) (by simp[results,results107,go_sem,bQ,rv,bT,aZ, *]) rfl (eB w l _ (iQ G2.out (by omega)) ?_)
   rw[cV,HX.out,HM.out,HT.out];simp[hl2]
theorem aFq (l:List UInt8)(w:World)(hl:l.length<=1000000000)(hK:eH l 0 1=7):
  Calls prog 107 #[.string (S l)] w fun e w'=>dF w l e w':=by
 have hsf:=aK
 have hd:iC l=⟨7,eH l 1 2,fU (l.drop 3),aZ,[],[]⟩:=by
  have:b1 l=7:=by rw[<- hK,oE,List.drop_zero]
  simp only[iC,this,aIv,eQ,rG,t2,List.drop_drop]
 have cR:=rd1 l 0
 rw[hK] at cR
 have CR:=Hid.mk' cR
 clear cR
 have cS:=rd2 l 1
 have cI:=fF l 3
 have hI:=lK (l.drop 3)
 generalize fU (l.drop 3)=i at *
 generalize eH l 1 2=sq at *
 have HD:=Hid.mk' hd
 have CS:=Hid.mk' cS
 have CI:=Hid.mk' cI
 have WX:Hid (WfR ⟨7,sq,jG i,aZ,[],[]⟩):=⟨⟨mZ _ hI.p,mZ _ hI.s⟩,by simp,by simp⟩
 clear hd cS cI hI
 go_enter func107,ntmps107
 go_wp2_with fail
 refine (CR.out _ hl (by omega)).mono ?_
 rintro e w' ⟨rfl,rfl⟩
 go_wp2_with fail
 refine (CS.out _ hl (by omega)).mono ?_
 rintro e w' ⟨rfl,rfl⟩
 go_wp2_with fail
 refine (CI.out _ hl (by omega)).mono ?_
 rintro e w1 ⟨rfl,g1⟩
 have G1:=Hid.mk' ((cU w _ _).trans g1)
 have z1:=g1.size
 simp at z1
 obtain ⟨a0,a1,a2,a3,a4,a5,a6,a7,a8,a9,a10,a11,a12⟩:=qD g1 w.heap.size (.int .i64 0) (.int .i64 0) (.int .i64 0) (.int .i64 0) (.float .f32 0) (.float .f32 0) (.int .i64 0) (.int .i64 0) (.int .i64 0) (.int .i64 0) (.int .i64 0) (.slice none 0 0) (.slice none 0 0)
 obtain ⟨c0,c1,c2,c3,c4,c5,c6,c7,c8,c9,c10,c11,c12⟩:=qD g1 (w.heap.size+1) (.int .i64 7) (.int .i64 sq) (.int .i64 0) (.int .i64 0) (.float .f32 0) (.float .f32 0) (.int .i64 0) (.int .i64 0) (.int .i64 0) (.int .i64 0) (.int .i64 0) (.slice none 0 0) (.slice none 0 0)
 have fa:∀o,w1.frozen? ⟨w.heap.size,o,none⟩=false:=fun o=>by
  rw[World.frozen?_of_block (a:=⟨w.heap.size,o,none⟩) (g1.block w.heap.size (by simp;omega) (by simp))];go_simp
 have fc:∀o,w1.frozen? ⟨w.heap.size+1,o,none⟩=false:=fun o=>by
  rw[World.frozen?_of_block (a:=⟨w.heap.size+1,o,none⟩) (g1.block (w.heap.size+1) (by simp) (by simp))];go_simp
 clear g1
 go_wp2_with fail
 refine Calls.mono (dC ⟨7,sq,jG i,aZ,[],[]⟩ (.slice none 0 0) (.slice none 0 0) _ (nL _) (nM _) WX.out (by simp) (by simp)) ?_
 rintro e w2 ⟨rfl,g2⟩
 obtain ⟨b0,b1,b2,b3,b4,b5,b6,b7,b8,b9,b10,b11,b12⟩:=qD g2 w.heap.size (.int .i64 0) (.int .i64 0) (.int .i64 0) (.int .i64 0) (.float .f32 0) (.float .f32 0) (.int .i64 0) (.int .i64 0) (.int .i64 0) (.int .i64 0) (.int .i64 0) (.slice none 0 0) (.slice none 0 0)
 obtain ⟨r0,r1,r2,r3,r4,r5,r6,r7,r8,r9,r10,r11,r12⟩:=qD g2 (w.heap.size+1) (.int .i64 7) (.int .i64 sq) (.int .i64 i.sh) (.int .i64 i.nu) (.float .f32 (fx i.pl)) (.float .f32 (fx i.sp)) (.int .i64 0) (.int .i64 0) (.int .i64 0) (.int .i64 0) (.int .i64 0) (.slice none 0 0) (.slice none 0 0)
 have fb:∀o,w2.frozen? ⟨w.heap.size,o,none⟩=false:=fun o=>by
  rw[World.frozen?_of_block (a:=⟨w.heap.size,o,none⟩) (g2.block w.heap.size (by simp;omega) (by simp))];go_simp
 have G2:=Hid.mk' ((aB (aB (aB (aB G1.out (by omega) _ _) (by omega) _ _) (by omega) _ _) (by omega) _ _).trans g2)
 clear a0 c0 a1 c1 a2 c2 a3 c3 a4 c4 a5 c5 a6 c6 a7 c7 a8 c8 a9 c9 a10 c10 a11 c11 a12 c12 fa fc g2
 cases hk:sX i
 ·go_wp2_with fail
  refine bodyPost_ret (v:=.tuple #[bQ,.int .i64 7]) (by simp[results,results107,go_sem,bQ,rv,bT,aZ, *]) rfl (eB w l _ (iQ G2.out (by omega)) ?_)
  rw[cV,HD.out];simp[aP,rS hk]
 ·have HX:Hid (iC l=⟨7,sq,jG i,aZ,[],[]⟩):=by show _=_;rw[HD.out,rR hk]
  cases hm:aP ⟨7,sq,jG i,aZ,[],[]⟩
  ·have hE:eZ ⟨7,sq,jG i,aZ,[],[]⟩=2:=by simp[eZ,hm]
   rw[hE]
   go_wp2_with fail
   refine bodyPost_ret (v:=.tuple #[bQ,.int .i64 7]) (by simp[results,results107,go_sem,bQ,rv,bT,aZ, *]) rfl (eB w l _ (iQ G2.out (by omega)) ?_)
   rw[cV,HX.out,hm];rfl
  ·have hE:eZ ⟨7,sq,jG i,aZ,[],[]⟩=0:=by simp[eZ,hm]
   have hS:lG ⟨7,sq,jG i,aZ,[],[]⟩=enc ⟨7,sq,jG i,aZ,[],[]⟩:=by simp[lG,hm]
   rw[hE,hS]
   have HM:=Hid.mk' hm
   obtain ⟨t,ht⟩:∃t,enc ⟨7,sq,jG i,aZ,[],[]⟩=t:=⟨_,rfl⟩
   rw[ht]
   have HT:=Hid.mk' ht
   clear ht hm hE hS
   by_cases hl2:t=l
   ·subst hl2
    go_wp2_with fail
    refine bodyPost_ret (v:=.tuple #[rv 7 sq ⟨i.sh,i.nu,(fx i.pl),(fx i.sp)⟩ aZ (.slice none 0 0) (.slice none 0 0),.int .i64 0]) (by simp[results,results107,go_sem,rv,aZ, *]) rfl ⟨(iQ G2.out (by omega)),.inr ⟨?_,.slice none 0 0,.slice none 0 0,?_,?_,?_,by simp[Value.ownBlock]⟩⟩
    ·rw[cV,HX.out,HM.out,HT.out];simp
    ·rw[HX.out];rfl
    ·rw[HX.out];exact World.ownsRow_nil _ _ _ _
    ·rw[HX.out];exact World.ownsRow_nil _ _ _ _
   ·have hne:((S t).toList==(S l).toList)=false:=by rw[bW,bW];simp[hl2]
    go_wp2_with fail
    refine bodyPost_ret (v:=.tuple #[bQ,.int .i64 7]) (by simp[results,results107,go_sem,bQ,rv,bT,aZ, *]) rfl (eB w l _ (iQ G2.out (by omega)) ?_)
    rw[cV,HX.out,HM.out,HT.out];simp[hl2]
theorem aFr (l:List UInt8)(w:World)(hl:l.length<=1000000000)(hK:eH l 0 1=8):
  Calls prog 107 #[.string (S l)] w fun e w'=>dF w l e w':=by
 have hsf:=aK
 have hd:iC l=⟨8,eH l 1 2,bT,aZ,[],[]⟩:=by
  have:b1 l=8:=by rw[<- hK,oE,List.drop_zero]
  simp only[iC,this,aIx,eQ,rG]
 have cR:=rd1 l 0
 rw[hK] at cR
 have CR:=Hid.mk' cR
 clear cR
 have cS:=rd2 l 1
 generalize eH l 1 2=sq at *
 have HX:=Hid.mk' hd
 have CS:=Hid.mk' cS
 have WX:Hid (WfR ⟨8,sq,bT,aZ,[],[]⟩):=⟨nD,by simp,by simp⟩
 clear hd cS
 go_enter func107,ntmps107
 go_wp2_with fail
 refine (CR.out _ hl (by omega)).mono ?_
 rintro e w' ⟨rfl,rfl⟩
 go_wp2_with fail
 refine (CS.out _ hl (by omega)).mono ?_
 rintro e w' ⟨rfl,rfl⟩
 go_wp2_with fail
 refine Calls.mono (dC ⟨8,sq,bT,aZ,[],[]⟩ (.slice none 0 0) (.slice none 0 0) _ (nL _) (nM _) WX.out (by simp) (by simp)) ?_
 rintro e w2 ⟨rfl,g2⟩
 obtain ⟨b0,b1,b2,b3,b4,b5,b6,b7,b8,b9,b10,b11,b12⟩:=qD g2 w.heap.size (.int .i64 0) (.int .i64 0) (.int .i64 0) (.int .i64 0) (.float .f32 0) (.float .f32 0) (.int .i64 0) (.int .i64 0) (.int .i64 0) (.int .i64 0) (.int .i64 0) (.slice none 0 0) (.slice none 0 0)
 obtain ⟨r0,r1,r2,r3,r4,r5,r6,r7,r8,r9,r10,r11,r12⟩:=qD g2 (w.heap.size+1) (.int .i64 8) (.int .i64 sq) (.int .i64 0) (.int .i64 0) (.float .f32 0) (.float .f32 0) (.int .i64 0) (.int .i64 0) (.int .i64 0) (.int .i64 0) (.int .i64 0) (.slice none 0 0) (.slice none 0 0)
 have fb:∀o,w2.frozen? ⟨w.heap.size,o,none⟩=false:=fun o=>by
  rw[World.frozen?_of_block (a:=⟨w.heap.size,o,none⟩) (g2.block w.heap.size (by simp;omega) (by simp))];go_simp
 have G2:=Hid.mk' ((cU w _ _).trans g2)
 clear g2
 cases hm:aP ⟨8,sq,bT,aZ,[],[]⟩
 ·have hE:eZ ⟨8,sq,bT,aZ,[],[]⟩=2:=by simp[eZ,hm]
  rw[hE]
  go_wp2_with fail
  refine bodyPost_ret (v:=.tuple #[bQ,.int .i64 7]) (by simp[results,results107,go_sem,bQ,rv,bT,aZ, *]) rfl (eB w l _ (iQ G2.out (by omega)) ?_)
  rw[cV,HX.out,hm];rfl
 ·have hE:eZ ⟨8,sq,bT,aZ,[],[]⟩=0:=by simp[eZ,hm]
  have hS:lG ⟨8,sq,bT,aZ,[],[]⟩=enc ⟨8,sq,bT,aZ,[],[]⟩:=by simp[lG,hm]
  rw[hE,hS]
  have HM:=Hid.mk' hm
  obtain ⟨t,ht⟩:∃t,enc ⟨8,sq,bT,aZ,[],[]⟩=t:=⟨_,rfl⟩
  rw[ht]
  have HT:=Hid.mk' ht
  clear ht hm hE hS
  by_cases hl2:t=l
  ·subst hl2
   go_wp2_with fail
   refine bodyPost_ret (v:=.tuple #[rv 8 sq ⟨0,0,0,0⟩ aZ (.slice none 0 0) (.slice none 0 0),.int .i64 0]) (by simp[results,results107,go_sem,rv,aZ, *]) rfl ⟨(iQ G2.out (by omega)),.inr ⟨?_,.slice none 0 0,.slice none 0 0,?_,?_,?_,by simp[Value.ownBlock]⟩⟩
   ·rw[cV,HX.out,HM.out,HT.out];simp
   ·rw[HX.out];rfl
   ·rw[HX.out];exact World.ownsRow_nil _ _ _ _
   ·rw[HX.out];exact World.ownsRow_nil _ _ _ _
  ·have hne:((S t).toList==(S l).toList)=false:=by rw[bW,bW];simp[hl2]
   go_wp2_with fail
   refine bodyPost_ret (v:=.tuple #[bQ,.int .i64 7]) (by simp[results,results107,go_sem,bQ,rv,bT,aZ, *]) rfl (eB w l _ (iQ G2.out (by omega)) ?_)
   rw[cV,HX.out,HM.out,HT.out];simp[hl2]
end Go.Proofs.YtammnaafdhhjaaaGreat
