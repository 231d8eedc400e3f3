import Derived.Laws.FloatArith
set_option maxHeartbeats 16000000
set_option maxRecDepth 100000
namespace Go.Proofs.YtammnaafdhhjaaaGreat
namespace Fl
open Ieee
theorem rM:double.binade=4503599627370496:=rfl
theorem aEP:double.infRung=9218868437227405312:=rfl
theorem aIQ:double.signWeight=9223372036854775808:=rfl
theorem vC:double.leastPlace=-1074:=rfl
theorem vD:double.fractionBits=52:=rfl
def W (q:Nat)(e:Int):Nat:=(e+1074).toNat * 4503599627370496+q
structure Nm (q:Nat)(e:Int):Prop where
 lo:4503599627370496<=q
 hi:q<9007199254740992
 least:-1074<=e
 most:e<=971
theorem read_W {q:Nat}{e:Int}(h:Nm q e):double.read (W q e)=.number false q e:=by
 obtain ⟨lo,hi,least,most⟩:=h
 unfold W
 obtain ⟨a,ha⟩:∃a,(e+1074).toNat=a:=⟨_,rfl⟩
 rw[ha]
 have ha2:a<=2045:=by omega
 have he:e=(a:Int) -1074:=by omega
 unfold Format.read
 rw[rM,aEP,aIQ,vC]
 have m1:(a * 4503599627370496+q) / 9223372036854775808 % 2=0:=by omega
 have m2:(a * 4503599627370496+q) % 9223372036854775808=a * 4503599627370496+q:=by omega
 have m3:(a * 4503599627370496+q) % 4503599627370496=q -4503599627370496:=by omega
 have m4:(a * 4503599627370496+q) / 4503599627370496=a+1:=by omega
 simp only[m1,m2,m3,m4]
 rw[if_neg (by omega),if_pos (by omega)]
 have e1:4503599627370496+(q -4503599627370496)=q:=by omega
 have e2:(-1074:Int)+((a+1 -1:Nat):Int)=e:=by omega
 rw[e1,e2]
 rfl
theorem oH {n k:Nat}(h1:2 ^ k<=n)(h2:n<2 ^ (k+1)):n.log2=k:=by
 have hn:n≠0:=by have:=Nat.two_pow_pos k;omega
 have a:k<=n.log2:=(Nat.le_log2 hn).2 h1
 have b:n.log2<k+1:=(Nat.log2_lt hn).2 h2
 omega
theorem vF {q:Nat}(lo:4503599627370496<=q)(hi:q<9007199254740992):q.log2=52:=oH (k:=52) lo hi
theorem aJX (n:Nat):Toward.even.cut false n 0=n:=by
 unfold Toward.cut
 simp
 omega
theorem aIR (q k:Nat)(hq:0<q):Toward.even.cut false (q * 2 ^ k) k=q:=by
 have hk:k<=(q * 2 ^ k).log2+2:=by
  have:k<=(q * 2 ^ k).log2:=(Nat.le_log2 (Nat.ne_of_gt (Nat.mul_pos hq (Nat.two_pow_pos k)))).2 (Nat.le_mul_of_pos_left _ hq)
  omega
 have hp:=Nat.two_pow_pos k
 simp only[Toward.cut,Nat.min_eq_left hk,Nat.one_shiftLeft,Nat.mul_div_cancel _ hp,Nat.mul_mod_left]
 have h1:decide (2 ^ k<2 * 0)=false:=by simp
 have h2:(2 ^ k==2 * 0)=false:=by simp
 rw[h1,h2]
 rfl
theorem xF {q mag k:Nat}{e place:Int}(h:Nm q e)(hp:place=e+k)(hq:q=mag * 2 ^ k):double.nearest false mag place=W q e:=by
 obtain ⟨lo,hi,least,most⟩:=h
 have hm:mag≠0:=by rintro rfl;simp at hq;omega
 have hk:k<=52:=by
  rcases Nat.lt_or_ge 52 k with hlt | hge
  ·have:2 ^ 53<=2 ^ k:=Nat.pow_le_pow_right (by decide) hlt
   have h1:2 ^ k<=mag * 2 ^ k:=Nat.le_mul_of_pos_left _ (by omega)
   have h2:(2:Nat) ^ 53=9007199254740992:=rfl
   omega
  ·exact hge
 have hl:mag.log2=52 -k:=by
  apply oH
  ·have e1:2 ^ (52 -k) * 2 ^ k=4503599627370496:=by rw[<- Nat.pow_add,show 52 -k+k=52 by omega]
   have:2 ^ (52 -k) * 2 ^ k<=mag * 2 ^ k:=by rw[e1,<- hq];exact lo
   exact Nat.le_of_mul_le_mul_right this (Nat.two_pow_pos k)
  ·have e1:2 ^ (52 -k+1) * 2 ^ k=9007199254740992:=by rw[<- Nat.pow_add,show 52 -k+1+k=53 by omega]
   have:mag * 2 ^ k<2 ^ (52 -k+1) * 2 ^ k:=by rw[e1,<- hq];exact hi
   exact Nat.lt_of_mul_lt_mul_right this
 unfold Format.nearest
 rw[if_neg hm,vD,vC,rM,aEP,hl]
 have e1:place+((52 -k:Nat):Int) -((52:Nat):Int)=e:=by omega
 have e2:max e (-1074)=e:=by omega
 simp only[e1,e2]
 have e3:(place -e).toNat=k:=by omega
 have e4:(e -place).toNat=0:=by omega
 have e5:(e -(-1074)).toNat=(e+1074).toNat:=by omega
 rw[e3,e4,Nat.shiftLeft_eq,<- hq,aJX,e5]
 have e6:(e+1074).toNat<=2045:=by omega
 rw[Nat.min_eq_left (by omega)]
 rfl
theorem jD {q mag k:Nat}{e place:Int}(h:Nm q e)(hp:place+k=e)(hq:mag=q * 2 ^ k):double.nearest false mag place=W q e:=by
 obtain ⟨lo,hi,least,most⟩:=h
 have hpos:=Nat.two_pow_pos k
 have hm:mag≠0:=by rw[hq];exact Nat.ne_of_gt (Nat.mul_pos (by omega) hpos)
 have hl:mag.log2=52+k:=by
  apply oH
  ·rw[hq,Nat.pow_add];exact Nat.mul_le_mul_right _ lo
  ·rw[hq,show 52+k+1=53+k by omega,Nat.pow_add];exact Nat.mul_lt_mul_of_pos_right hi hpos
 unfold Format.nearest
 rw[if_neg hm,vD,vC,rM,aEP,hl]
 have e1:place+((52+k:Nat):Int) -((52:Nat):Int)=e:=by omega
 have e2:max e (-1074)=e:=by omega
 simp only[e1,e2]
 have e3:(place -e).toNat=0:=by omega
 have e4:(e -place).toNat=k:=by omega
 have e5:(e -(-1074)).toNat=(e+1074).toNat:=by omega
 rw[e3,e4,Nat.shiftLeft_zero,hq,aIR q k (by omega),e5]
 have e6:(e+1074).toNat<=2045:=by omega
 rw[Nat.min_eq_left (by omega)]
 rfl
theorem two_W:(4611686018427387904:Nat)=W 4503599627370496 (-51):=by unfold W;rfl
theorem one_W:(4607182418800017408:Nat)=W 4503599627370496 (-52):=by unfold W;rfl
theorem big_W:(4710765210229538816:Nat)=W 4503599627370496 (-29):=by unfold W;rfl
theorem half_W {q:Nat}{e:Int}(h:Nm q e)(he:-1073<=e):double.div (W q e) 4611686018427387904=some (W q (e -1)):=by
 have h2:Nm 4503599627370496 (-51):=⟨by omega,by omega,by omega,by omega⟩
 unfold Format.div
 rw[two_W,read_W h,read_W h2,vD]
 have l1:=vF h.lo h.hi
 have l2:Nat.log2 4503599627370496=52:=vF (by omega) (by omega)
 have em:52+2+52 -52=54:=rfl
 simp only[Datum.quotient,l1,l2,em]
 rw[if_neg (by omega)]
 have e1:(q <<<54) / 4503599627370496=4 * q:=by rw[Nat.shiftLeft_eq];omega
 have e2:(q <<<54) % 4503599627370496=0:=by rw[Nat.shiftLeft_eq];omega
 rw[e1,e2]
 have hn:Nm q (e -1):=⟨h.lo,h.hi,by omega,by have:=h.most;omega⟩
 have w:double.nearest false (2 * (4 * q)+((0:Nat) !=0).toNat) (e -(-51) -((54:Nat):Int) -1)=W q (e -1):=jD (k:=3) hn (by omega) (by simp;omega)
 exact congrArg some w
theorem twice_W {q:Nat}{e:Int}(h:Nm q e)(he:e<=970):double.mul (W q e) 4611686018427387904=some (W q (e+1)):=by
 have h2:Nm 4503599627370496 (-51):=⟨by omega,by omega,by omega,by omega⟩
 unfold Format.mul
 rw[two_W,read_W h,read_W h2]
 have hn:Nm q (e+1):=⟨h.lo,h.hi,by have:=h.least;omega,by omega⟩
 simp only[Datum.product,Option.map_some]
 have w:double.nearest false (q * 4503599627370496) (e+-51)=W q (e+1):=jD (k:=52) hn (by omega) rfl
 exact congrArg some w
theorem order_pow {q:Nat}{e c:Int}(h:Nm q e)(hc:Nm 4503599627370496 c):double.order (W q e) (W 4503599627370496 c)=some (if e<c then .lt else if e=c/\q=4503599627370496 then .eq else .gt):=by
 unfold Format.order
 rw[read_W h,read_W hc]
 obtain ⟨lo,hi,_,_⟩:=h
 simp only[Datum.order,Option.some.injEq]
 unfold signed
 simp only[Bool.false_eq_true,if_false]
 rcases Int.lt_trichotomy e c with hlt | heq | hgt
 ·rw[if_pos hlt,show min e c=e by omega,show (e -e).toNat=0 by omega,Nat.shiftLeft_zero,Nat.shiftLeft_eq]
  obtain ⟨d,hd⟩:∃d,(c -e).toNat=d+1:=⟨(c -e).toNat -1,by omega⟩
  rw[hd,Nat.pow_succ]
  have:=Nat.two_pow_pos d
  have h1:q<4503599627370496 * (2 ^ d * 2):=by
   have:4503599627370496 * 2<=4503599627370496 * (2 ^ d * 2):=Nat.mul_le_mul_left _ (by omega)
   omega
  rw[Int.compare_eq_lt]
  exact Int.ofNat_lt.2 h1
 ·subst heq
  rw[if_neg (by omega),show min e e=e by omega,show (e -e).toNat=0 by omega,Nat.shiftLeft_zero,Nat.shiftLeft_zero]
  by_cases hq:q=4503599627370496
  ·rw[if_pos ⟨rfl,hq⟩,hq];simp
  ·rw[if_neg (fun hh=>hq hh.2),Int.compare_eq_gt];omega
 ·rw[if_neg (by omega),if_neg (by omega),show min e c=c by omega,show (c -c).toNat=0 by omega,Nat.shiftLeft_zero,Nat.shiftLeft_eq]
  obtain ⟨d,hd⟩:∃d,(e -c).toNat=d+1:=⟨(e -c).toNat -1,by omega⟩
  rw[hd,Nat.pow_succ]
  have:=Nat.two_pow_pos d
  have h1:4503599627370496<q * (2 ^ d * 2):=by
   have:q * 2<=q * (2 ^ d * 2):=Nat.mul_le_mul_left _ (by omega)
   omega
  rw[Int.compare_eq_gt]
  exact Int.ofNat_lt.2 h1
end Fl
end Go.Proofs.YtammnaafdhhjaaaGreat
namespace Go.Proofs.YtammnaafdhhjaaaGreat
namespace Fl
open Ieee
theorem mul_pow {q:Nat}{e c:Int}(h:Nm q e)(hc:Nm 4503599627370496 c)(h1:-1074<=e+c+52)(h2:e+c+52<=971):double.mul (W q e) (W 4503599627370496 c)=some (W q (e+c+52)):=by
 unfold Format.mul
 rw[read_W h,read_W hc]
 have hn:Nm q (e+c+52):=⟨h.lo,h.hi,h1,h2⟩
 simp only[Datum.product,Option.map_some]
 have w:double.nearest false (q * 4503599627370496) (e+c)=W q (e+c+52):=jD (k:=52) hn (by omega) rfl
 exact congrArg some w
theorem aEQ (n drop:Nat):Toward.zero.cut false n drop=n / 2 ^ drop:=by
 simp only[Toward.cut,Nat.one_shiftLeft,Bool.toNat_false,Nat.add_zero]
 rcases Nat.le_total drop (n.log2+2) with h | h
 ·rw[Nat.min_eq_left h]
 ·rw[Nat.min_eq_right h]
  have h1:n<2 ^ (n.log2+2):=by
   have:n<2 ^ (n.log2+1):=Nat.lt_log2_self
   have:2 ^ (n.log2+1)<=2 ^ (n.log2+2):=Nat.pow_le_pow_right (by decide) (by omega)
   omega
  have h2:2 ^ (n.log2+2)<=2 ^ drop:=Nat.pow_le_pow_right (by decide) h
  rw[Nat.div_eq_of_lt h1,Nat.div_eq_of_lt (by omega)]
theorem aIS (z:Int)(h0:0<=z)(h1:z<9007199254740992):IntKind.i64.min<=z/\z<=IntKind.i64.max:=by
 have a:IntKind.i64.min<=0:=by decide+kernel
 have b:9007199254740992<=IntKind.i64.max:=by decide+kernel
 exact ⟨Int.le_trans a h0,Int.le_trans (Int.le_of_lt h1) b⟩
theorem xG (b:Nat)(z:Int)(h:(FloatKind.f64.decode b).toInt .zero=some z)(h0:0<=z)(h1:z<9007199254740992):floatToIntVal .f64 b .i64=some z:=by
 unfold floatToIntVal
 rw[h]
 exact if_pos (aIS z h0 h1)
theorem aHo (z:Nat):signed false z 0=(z:Int):=by
 unfold signed
 rw[if_neg (by decide),Nat.shiftLeft_zero]
theorem aCF (q:Nat)(e:Int)(he:e<=0):(Datum.number false q e).toInt .zero=some ((q / 2 ^ (-e).toNat:Nat):Int):=by
 have e0:e.toNat=0:=by omega
 have hi:(Datum.number false q e).integral .zero=.number false (q / 2 ^ (-e).toNat) 0:=by
  show Datum.number false (Toward.zero.cut false (q <<<e.toNat) (-e).toNat) 0=_
  rw[e0,Nat.shiftLeft_zero,aEQ]
 unfold Datum.toInt
 rw[hi]
 exact congrArg some (aHo _)
theorem toInt_W {q:Nat}{e:Int}(h:Nm q e)(he:e<=0):floatToIntVal .f64 (W q e) .i64=some ((q / 2 ^ (-e).toNat:Nat):Int):=by
 have hr:FloatKind.f64.decode (W q e)=.number false q e:=read_W h
 have hlt:q / 2 ^ (-e).toNat<=q:=Nat.div_le_self _ _
 have hhi:=h.hi
 have ht:=aCF q e he
 rw[<- hr] at ht
 generalize q / 2 ^ (-e).toNat=z at *
 exact xG _ _ ht (Int.natCast_nonneg z) (by omega)
theorem write_any {mag:Nat}{p:Int}(hm:0<mag)(hl:mag<9007199254740992)(h1:-1000<=p)(h2:p<=900):∃k q:Nat,k<=52/\mag.log2+k=52/\q=mag * 2 ^ k/\Nm q (p -k)/\double.write (.number false mag p)=W q (p -k):=by
 have hk:mag.log2<=52:=by
  have:mag.log2<53:=(Nat.log2_lt (by omega)).2 hl
  omega
 have a:2 ^ mag.log2<=mag:=Nat.log2_self_le (by omega)
 have b:mag<2 ^ (mag.log2+1):=Nat.lt_log2_self
 have hn:Nm (mag * 2 ^ (52 -mag.log2)) (p -(52 -mag.log2:Nat)):=by
  refine ⟨?_,?_,by omega,by omega⟩
  ·have:2 ^ mag.log2 * 2 ^ (52 -mag.log2)=4503599627370496:=by rw[<- Nat.pow_add,show mag.log2+(52 -mag.log2)=52 by omega]
   rw[<- this];exact Nat.mul_le_mul_right _ a
  ·have:2 ^ (mag.log2+1) * 2 ^ (52 -mag.log2)=9007199254740992:=by rw[<- Nat.pow_add,show mag.log2+1+(52 -mag.log2)=53 by omega]
   rw[<- this];exact Nat.mul_lt_mul_of_pos_right b (Nat.two_pow_pos _)
 exact ⟨52 -mag.log2,_,by omega,by omega,rfl,hn,xF (k:=52 -mag.log2) hn (by omega) rfl⟩
theorem s_binade:single.binade=8388608:=rfl
theorem s_inf:single.infRung=2139095040:=rfl
theorem s_sign:single.signWeight=2147483648:=rfl
theorem s_least:single.leastPlace=-149:=rfl
def mOf (r:Nat):Nat:=if r<8388608 then r else 8388608+r % 8388608
def pOf (r:Nat):Int:=if r<8388608 then -149 else -149+((r / 8388608 -1:Nat):Int)
theorem read32 (b:Nat)(h:b % 2147483648<2139095040):single.read b=.number (b / 2147483648 % 2==1) (mOf (b % 2147483648)) (pOf (b % 2147483648)):=by
 unfold Format.read mOf pOf
 rw[s_binade,s_inf,s_sign,s_least]
 simp only
 split
 ·rfl
 ·first | rfl | (rw[if_pos h])
theorem read32_no (b:Nat)(h:¬b % 2147483648<2139095040):(∃s,single.read b=.infinity s)∨∃s f,single.read b=.nan s f:=by
 unfold Format.read
 rw[s_binade,s_inf,s_sign,s_least]
 simp only
 rw[if_neg (by omega),if_neg h]
 split
 ·exact .inl ⟨_,rfl⟩
 ·exact .inr ⟨_,_,rfl⟩
theorem pattern_normal (r:Nat)(h1:8388608<=r)(h2:r<2139095040):∃e:Int,∃q:Nat,Nm q e/\double.write (.number false (mOf r) (pOf r))=W q e/\ -178<=e/\e<=75/\(e+52+127) * 8388608+(((q -4503599627370496) / 536870912:Nat):Int)=(r:Int):=by
 have hm:mOf r=8388608+r % 8388608:=by unfold mOf;rw[if_neg (by omega)]
 have hp:pOf r=-149+((r / 8388608 -1:Nat):Int):=by unfold pOf;rw[if_neg (by omega)]
 have hn:Nm (mOf r * 536870912) (pOf r -29):=⟨by omega,by omega,by omega,by omega⟩
 refine ⟨pOf r -29,mOf r * 536870912,hn,xF (k:=29) hn (by omega) rfl,by omega,by omega,?_⟩
 have e1:(mOf r * 536870912 -4503599627370496) / 536870912=r % 8388608:=by omega
 rw[e1,hp]
 omega
theorem pattern_small (r:Nat)(h0:0<r)(h1:r<8388608):∃e:Int,∃q:Nat,Nm q e/\double.write (.number false (mOf r) (pOf r))=W q e/\ -201<=e/\e<=-179/\q / 2 ^ (-(e+126+23)).toNat=r:=by
 have hm:mOf r=r:=by unfold mOf;rw[if_pos h1]
 have hp:pOf r=-149:=by unfold pOf;rw[if_pos h1]
 obtain ⟨k,q,hk,hl,hq,hn,hw⟩:=write_any (mag:=mOf r) (p:=pOf r) (by omega) (by omega) (by omega) (by omega)
 have hL:(mOf r).log2<23:=(Nat.log2_lt (by omega)).2 (by omega)
 refine ⟨pOf r -k,q,hn,hw,by omega,by omega,?_⟩
 have e1:(-(pOf r -(k:Int)+126+23)).toNat=k:=by omega
 rw[e1,hq,hm,Nat.mul_div_cancel _ (Nat.two_pow_pos k)]
theorem frac_W {q:Nat}(h:Nm q (-52)):∃a b:Nat,double.sub (W q (-52)) 4607182418800017408=some a/\double.mul a 4710765210229538816=some b/\floatToIntVal .f64 b .i64=some (((q -4503599627370496) / 536870912:Nat):Int):=by
 have h1:Nm 4503599627370496 (-52):=⟨by omega,by omega,by omega,by omega⟩
 have hb:Nm 4503599627370496 (-29):=⟨by omega,by omega,by omega,by omega⟩
 have hlo:=h.lo
 have hhi:=h.hi
 have hs:double.sub (W q (-52)) 4607182418800017408=some (double.write (.number false (q -4503599627370496) (-52))):=by
  unfold Format.sub
  rw[one_W,read_W h,read_W h1]
  have es:signed false q 0+signed true 4503599627370496 0=((q -4503599627370496:Nat):Int):=by
   unfold signed;simp only[Bool.false_eq_true,if_false,if_true,Nat.shiftLeft_zero];omega
  have ed:Datum.sum (.number false q (-52)) (.number true 4503599627370496 (-52))=some (.number false (q -4503599627370496) (-52)):=by
   show some (Datum.number (if signed false q 0+signed true 4503599627370496 0=0 then false&&true else decide (signed false q 0+signed true 4503599627370496 0<0)) (signed false q 0+signed true 4503599627370496 0).natAbs (-52))=_
   rw[es,Int.natAbs_natCast]
   have hb:(if ((q -4503599627370496:Nat):Int)=0 then false&&true else decide (((q -4503599627370496:Nat):Int)<0))=false:=by
    split
    ·rfl
    ·exact decide_eq_false (by omega)
   rw[hb]
  show Option.map double.write (Datum.sum (.number false q (-52)) (.number true 4503599627370496 (-52)))=_
  rw[ed];rfl
 by_cases hq:q=4503599627370496
 ·refine ⟨0,0,?_,?_,?_⟩
  ·rw[hs,hq];decide+kernel
  ·decide+kernel
  ·rw[hq];decide+kernel
 ·obtain ⟨k,q',hk,hl,hq',hn,hw⟩:=write_any (mag:=q -4503599627370496) (p:=-52) (by omega) (by omega) (by omega) (by omega)
  rw[hw] at hs
  refine ⟨_,_,hs,by rw[big_W];exact mul_pow hn hb (by omega) (by omega),?_⟩
  have hn2:Nm q' (-52 -(k:Int)+-29+52):=⟨hn.lo,hn.hi,by omega,by omega⟩
  rw[toInt_W hn2 (by omega)]
  have e1:(-(-52 -(k:Int)+-29+52)).toNat=k+29:=by omega
  rw[e1,hq',Nat.pow_add,<- Nat.div_div_eq_div_mul,Nat.mul_div_cancel _ (Nat.two_pow_pos k)]
end Fl
end Go.Proofs.YtammnaafdhhjaaaGreat
