import Derived.Test.YtammnaafdhhjaaaGreatJW1
import Derived.Test.YtammnaafdhhjaaaGreatJF1
set_option maxHeartbeats 16000000
set_option maxRecDepth 100000
namespace Go.Proofs.YtammnaafdhhjaaaGreat
open Go.RowKit Go.Proofs.Tryz
open Ieee (Datum)
theorem pI (b:Nat)(h:b % 2147483648<2139095040):FloatKind.f32.format.order b 0=some (if b % 2147483648=0 then .eq else if b / 2147483648 % 2==1 then .lt else .gt):=by
 have hr:FloatKind.f32.format.read b=_:=Fl.read32 b h
 have h0:FloatKind.f32.format.read 0=.number false 0 (-149):=Fl.read32 0 (by decide)
 have hm:Fl.mOf (b % 2147483648)=0↔b % 2147483648=0:=by unfold Fl.mOf;split<;>omega
 unfold Ieee.Format.order
 rw[hr,h0]
 generalize Fl.pOf (b % 2147483648)=p
 generalize hM:Fl.mOf (b % 2147483648)=m at *
 simp only[Datum.order,Option.some.injEq]
 have hz:Ieee.signed false 0 (-149 -min p (-149)).toNat=0:=by unfold Ieee.signed;simp
 rw[hz]
 by_cases hb:b % 2147483648=0
 ·rw[if_pos hb]
  have:m=0:=hm.2 hb
  subst this
  unfold Ieee.signed
  split<;>simp
 ·rw[if_neg hb]
  have hm0:0<m:=Nat.pos_of_ne_zero (fun e=>hb (hm.1 e))
  have hp:=Nat.two_pow_pos (p -min p (-149)).toNat
  have hpos:0<m <<<(p -min p (-149)).toNat:=by rw[Nat.shiftLeft_eq];exact Nat.mul_pos hm0 hp
  unfold Ieee.signed
  cases hs:(b / 2147483648 % 2==1)
  ·simp only[Bool.false_eq_true,if_false]
   rw[Int.compare_eq_gt];omega
  ·simp only[if_true]
   rw[Int.compare_eq_lt];omega
theorem qN {q:Nat}{c:Int}(h:Fl.Nm q c)(hc:-51<=c):(FloatKind.f64.format.order (Fl.W q c) 4611686018427387904==some .gt || FloatKind.f64.format.order (Fl.W q c) 4611686018427387904==some .eq)=true:=by
 have ho:FloatKind.f64.format.order (Fl.W q c) 4611686018427387904=some (if c< -51 then .lt else if c=-51/\q=4503599627370496 then .eq else .gt):=by rw[Fl.two_W];exact Fl.order_pow h ⟨by omega,by omega,by omega,by omega⟩
 rw[ho,if_neg (by omega)]
 split<;>rfl
theorem vG {q:Nat}{c:Int}(h:Fl.Nm q c)(hc:c< -51):(FloatKind.f64.format.order (Fl.W q c) 4611686018427387904==some .gt || FloatKind.f64.format.order (Fl.W q c) 4611686018427387904==some .eq)=false:=by
 have ho:FloatKind.f64.format.order (Fl.W q c) 4611686018427387904=some (if c< -51 then .lt else if c=-51/\q=4503599627370496 then .eq else .gt):=by rw[Fl.two_W];exact Fl.order_pow h ⟨by omega,by omega,by omega,by omega⟩
 rw[ho,if_pos (by omega)]
 rfl
theorem qO {q:Nat}{c:Int}(h:Fl.Nm q c)(hc:c< -52):(FloatKind.f64.format.order (Fl.W q c) 4607182418800017408==some .lt)=true:=by
 have ho:FloatKind.f64.format.order (Fl.W q c) 4607182418800017408=some (if c< -52 then .lt else if c=-52/\q=4503599627370496 then .eq else .gt):=by rw[Fl.one_W];exact Fl.order_pow h ⟨by omega,by omega,by omega,by omega⟩
 rw[ho,if_pos (by omega)]
 rfl
theorem aER {q:Nat}{c:Int}(h:Fl.Nm q c)(hc:-52<=c):(FloatKind.f64.format.order (Fl.W q c) 4607182418800017408==some .lt)=false:=by
 have ho:FloatKind.f64.format.order (Fl.W q c) 4607182418800017408=some (if c< -52 then .lt else if c=-52/\q=4503599627370496 then .eq else .gt):=by rw[Fl.one_W];exact Fl.order_pow h ⟨by omega,by omega,by omega,by omega⟩
 rw[ho,if_neg (by omega)]
 split<;>rfl
theorem oI {q:Nat}{c:Int}(h:Fl.Nm q c)(hc:-1073<=c)(w:World):(binOp .quo 235 (.float .f64 (Fl.W q c)) (.float .f64 4611686018427387904)).run prog w=.ok (.float .f64 (Fl.W q (c -1))) w:=
 run_float_arith w .quo _ .f64 _ _ _ (Fl.half_W h hc)
theorem mL {q:Nat}{c:Int}(h:Fl.Nm q c)(hc:c<=970)(w:World):(binOp .mul 235 (.float .f64 (Fl.W q c)) (.float .f64 4611686018427387904)).run prog w=.ok (.float .f64 (Fl.W q (c+1))) w:=
 run_float_arith w .mul _ .f64 _ _ _ (Fl.twice_W h hc)
theorem mM (b:Nat)(h0:2147483648<=b)(h1:b<4294967296)(w:World):(Op.unary .neg (.float .f32 b)).run prog w=.ok (.float .f32 (b -2147483648)) w:=by
 have e:Op.negFloat .f32 b=b -2147483648:=by
  obtain ⟨r,rfl⟩:∃r,b=2 ^ 31+r:=⟨b -2147483648,by omega⟩
  have hr:r<2 ^ 31:=by omega
  show (2 ^ 31+r) ^^^ 2 ^ 31=2 ^ 31+r -2147483648
  rw[show 2 ^ 31+r -2147483648=r by omega]
  apply Nat.eq_of_testBit_eq
  intro i
  rw[Nat.testBit_xor,Nat.testBit_two_pow]
  rcases Nat.lt_trichotomy i 31 with h | h | h
  ·rw[Nat.testBit_two_pow_add_gt h,show decide (31=i)=false from decide_eq_false (by omega),Bool.xor_false]
  ·subst h
   rw[Nat.testBit_two_pow_add_eq,Nat.testBit_lt_two_pow hr];rfl
  ·have h2:2 ^ 31+r<2 ^ i:=by
    have:2 ^ 32<=2 ^ i:=Nat.pow_le_pow_right (by decide) h
    omega
   have h3:r<2 ^ i:=by omega
   rw[Nat.testBit_lt_two_pow h2,Nat.testBit_lt_two_pow h3,show decide (31=i)=false from decide_eq_false (by omega)];rfl
 show Result.ok (Value.float .f32 (Op.negFloat .f32 b)) w=_
 rw[e]
theorem oJ (r q:Nat)(e:Int)(h0:r<2139095040)(hn:Fl.Nm q e)(hw:Ieee.double.write (.number false (Fl.mOf r) (Fl.pOf r))=Fl.W q e)(w:World):(convert 33 235 (.float .f32 r)).run prog w=.ok (.float .f64 (Fl.W q e)) w:=by
 refine run_convert_float_float w 33 235 .f32 .f64 r _ (by rw[underlying33];rfl) underlying235 ?_
 have hm:r % 2147483648=r:=by omega
 have hd:FloatKind.f32.decode r=.number false (Fl.mOf r) (Fl.pOf r):=by
  have:=Fl.read32 r (by omega)
  rw[hm] at this
  have hs:(r / 2147483648 % 2==1)=false:=by
   have:r / 2147483648=0:=by omega
   rw[this];rfl
  rw[hs] at this
  exact this
 have he:FloatKind.f64.encode (.number false (Fl.mOf r) (Fl.pOf r))=Fl.W q e:=hw
 have hdd:FloatKind.f64.decode (Fl.W q e)=.number false q e:=Fl.read_W hn
 unfold floatToFloatBits
 rw[if_neg (by decide),hd]
 show (if (FloatKind.f64.decode (FloatKind.f64.encode (.number false (Fl.mOf r) (Fl.pOf r)))).isInfinity then none else some (FloatKind.f64.encode (.number false (Fl.mOf r) (Fl.pOf r))))=_
 rw[he,hdd]
 rfl
end Go.Proofs.YtammnaafdhhjaaaGreat
namespace Go.Proofs.YtammnaafdhhjaaaGreat
open Go.RowKit Go.Proofs.Tryz
theorem nG (r:Nat)(h0:8388608<=r)(h1:r<2139095040)(w:World):
  Calls prog 201 #[.float .f32 r] w fun e w'=>e=.returned (.int .i64 ((r:Int)+0))/\w'=w:=by
 obtain ⟨e0,q,hn,hw,hlo,hhi,hres⟩:=Fl.pattern_normal r h0 h1
 have hcv:=oJ r q e0 (by omega) hn hw
 have ord:FloatKind.f32.format.order r 0=some .gt:=by
  rw[pI r (by omega),if_neg (by omega)]
  have:r / 2147483648=0:=by omega
  rw[this];rfl
 have HR:=Hid.mk' hres
 clear hw hres
 go_enter func201,ntmps201
 go_wp2
 go_loop [4,5] (fun v i=>∃c:Int,v=.float .f64 (Fl.W q c)/\i=.int .i64 (e0 -c)/\c<=e0/\(c=e0∨-52<=c)) (fun _ i=>(e0+60 -intOf i).toNat)
 case atStart=>exact ⟨e0,rfl,by rw[Int.sub_self],by omega,.inl rfl⟩
 case round=>
  obtain ⟨c,rfl,rfl,hc,hcc⟩:=hrel
  have hnc:Fl.Nm q c:=⟨hn.lo,hn.hi,by have:=hn.least;omega,by have:=hn.most;omega⟩
  by_cases h2:-51<=c
  ·have g1:=qN hnc h2
   have g2:=oI hnc (by omega)
   go_wp2
   go_round
   case rel=>exact ⟨c -1,rfl,by go_num,by omega,.inr (by omega)⟩
   case measure=>simp[intOf];omega
  ·have g1:=vG hnc (by omega)
   clear hcv
   go_wp2
   go_loop [4,5] (fun v i=>∃d:Int,v=.float .f64 (Fl.W q d)/\i=.int .i64 (e0 -d)/\c<=d/\d<=-52/\ -126<=e0 -d) (fun _ i=>(intOf i+200).toNat)
   case atStart=>exact ⟨c,rfl,rfl,by omega,by omega,by omega⟩
   case round=>
    obtain ⟨d,rfl,rfl,hd,hd2,hd3⟩:=hrel
    have hnd:Fl.Nm q d:=⟨hn.lo,hn.hi,by have:=hnc.least;omega,by omega⟩
    clear g1
    by_cases h3:d< -52
    ·have l1:=qO hnd h3
     by_cases h4:-126<e0 -d
     ·have g2:=mL hnd (by omega)
      have h4':decide (-126<e0 -d)=true:=by simp;omega
      go_wp2
      go_round
      case rel=>exact ⟨d+1,rfl,by go_num,by omega,by omega,by omega⟩
      case measure=>simp[intOf];omega
     ·exfalso;omega
    ·have hd52:d=-52:=by omega
     subst hd52
     have l1:=aER hnd (by omega)
     obtain ⟨fa,fb,s1,s2,s3⟩:=Fl.frac_W hnd
     have k1:=fun w=>run_float_arith (P:=prog) w .sub 235 .f64 _ _ _ s1
     have k2:=fun w=>run_float_arith (P:=prog) w .mul 235 .f64 _ _ _ s2
     have k3:=fun w=>run_convert_float_int (P:=prog) w 235 3 .f64 .i64 fb _ (by rw[underlying235];rfl) underlying3 s3
     clear s1 s2 s3
     have hzl:(q -4503599627370496) / 536870912<8388608:=by have:=hn.lo;have:=hn.hi;omega
     generalize (q -4503599627370496) / 536870912=z at *
     go_wp2
     go_ret
     refine ⟨eD ?_,rfl⟩
     have:=HR.out
     omega
theorem oK (r:Nat)(h0:0<r)(h1:r<8388608)(w:World):
  Calls prog 201 #[.float .f32 r] w fun e w'=>e=.returned (.int .i64 ((r:Int)+0))/\w'=w:=by
 obtain ⟨e0,q,hn,hw,hlo,hhi,hres⟩:=Fl.pattern_small r h0 h1
 have hcv:=oJ r q e0 (by omega) hn hw
 have ord:FloatKind.f32.format.order r 0=some .gt:=by
  rw[pI r (by omega),if_neg (by omega)]
  have:r / 2147483648=0:=by omega
  rw[this];rfl
 have HR:=Hid.mk' hres
 clear hw hres
 go_enter func201,ntmps201
 go_wp2
 go_loop [4,5] (fun v i=>∃c:Int,v=.float .f64 (Fl.W q c)/\i=.int .i64 (e0 -c)/\c<=e0/\(c=e0∨-52<=c)) (fun _ i=>(e0+60 -intOf i).toNat)
 case atStart=>exact ⟨e0,rfl,by rw[Int.sub_self],by omega,.inl rfl⟩
 case round=>
  obtain ⟨c,rfl,rfl,hc,hcc⟩:=hrel
  have hnc:Fl.Nm q c:=⟨hn.lo,hn.hi,by have:=hn.least;omega,by have:=hn.most;omega⟩
  by_cases h2:-51<=c
  ·have g1:=qN hnc h2
   have g2:=oI hnc (by omega)
   go_wp2
   go_round
   case rel=>exact ⟨c -1,rfl,by go_num,by omega,.inr (by omega)⟩
   case measure=>simp[intOf];omega
  ·have g1:=vG hnc (by omega)
   clear hcv
   go_wp2
   go_loop [4,5] (fun v i=>∃d:Int,v=.float .f64 (Fl.W q d)/\i=.int .i64 (e0 -d)/\c<=d/\d<=-52/\ -126<=e0 -d) (fun _ i=>(intOf i+200).toNat)
   case atStart=>exact ⟨c,rfl,rfl,by omega,by omega,by omega⟩
   case round=>
    obtain ⟨d,rfl,rfl,hd,hd2,hd3⟩:=hrel
    have hnd:Fl.Nm q d:=⟨hn.lo,hn.hi,by have:=hnc.least;omega,by omega⟩
    clear g1
    by_cases h3:d< -52
    ·have l1:=qO hnd h3
     by_cases h4:-126<e0 -d
     ·have g2:=mL hnd (by omega)
      have h4':decide (-126<e0 -d)=true:=by simp;omega
      go_wp2
      go_round
      case rel=>exact ⟨d+1,rfl,by go_num,by omega,by omega,by omega⟩
      case measure=>simp[intOf];omega
     ·have hd6:d=e0+126:=by omega
      have h4':decide (-126<e0 -d)=false:=by simp;omega
      have s1:=Fl.mul_pow (c:=-29) hnd ⟨by omega,by omega,by omega,by omega⟩ (by omega) (by omega)
      rw[<- Fl.big_W] at s1
      have hn3:Fl.Nm q (d+-29+52):=⟨hn.lo,hn.hi,by omega,by omega⟩
      have s3:=Fl.toInt_W hn3 (by omega)
      have hzr:q / 2 ^ (-(d+-29+52)).toNat=r:=by
       have:=HR.out
       rw[show d+-29+52=e0+126+23 by omega];exact this
      rw[hzr] at s3
      have k1:=fun w=>run_float_arith (P:=prog) w .mul 235 .f64 _ _ _ s1
      have k3:=fun w=>run_convert_float_int (P:=prog) w 235 3 .f64 .i64 _ _ (by rw[underlying235];rfl) underlying3 s3
      clear s1 s3 hzr hd6
      go_wp2
      go_ret
      refine ⟨eD ?_,rfl⟩
      omega
    ·have hd52:d=-52:=by omega
     exfalso;omega
theorem nJ (r:Nat)(h0:8388608<=r)(h1:r<2139095040)(w:World):
  Calls prog 201 #[.float .f32 (r+2147483648)] w fun e w'=>e=.returned (.int .i64 ((r:Int)+2147483648))/\w'=w:=by
 obtain ⟨e0,q,hn,hw,hlo,hhi,hres⟩:=Fl.pattern_normal r h0 h1
 have hcv:=oJ r q e0 (by omega) hn hw
 have ord:FloatKind.f32.format.order r 0=some .gt:=by
  rw[pI r (by omega),if_neg (by omega)]
  have:r / 2147483648=0:=by omega
  rw[this];rfl
 have ordb:FloatKind.f32.format.order (r+2147483648) 0=some .lt:=by
  rw[pI _ (by omega),if_neg (by omega)]
  have:(r+2147483648) / 2147483648=1:=by omega
  rw[this];rfl
 have hng:=mM (r+2147483648) (by omega) (by omega)
 rw[Nat.add_sub_cancel] at hng
 have HR:=Hid.mk' hres
 clear hw hres
 go_enter func201,ntmps201
 go_wp2
 go_loop [4,5] (fun v i=>∃c:Int,v=.float .f64 (Fl.W q c)/\i=.int .i64 (e0 -c)/\c<=e0/\(c=e0∨-52<=c)) (fun _ i=>(e0+60 -intOf i).toNat)
 case atStart=>exact ⟨e0,rfl,by rw[Int.sub_self],by omega,.inl rfl⟩
 case round=>
  obtain ⟨c,rfl,rfl,hc,hcc⟩:=hrel
  have hnc:Fl.Nm q c:=⟨hn.lo,hn.hi,by have:=hn.least;omega,by have:=hn.most;omega⟩
  by_cases h2:-51<=c
  ·have g1:=qN hnc h2
   have g2:=oI hnc (by omega)
   go_wp2
   go_round
   case rel=>exact ⟨c -1,rfl,by go_num,by omega,.inr (by omega)⟩
   case measure=>simp[intOf];omega
  ·have g1:=vG hnc (by omega)
   clear hcv
   go_wp2
   go_loop [4,5] (fun v i=>∃d:Int,v=.float .f64 (Fl.W q d)/\i=.int .i64 (e0 -d)/\c<=d/\d<=-52/\ -126<=e0 -d) (fun _ i=>(intOf i+200).toNat)
   case atStart=>exact ⟨c,rfl,rfl,by omega,by omega,by omega⟩
   case round=>
    obtain ⟨d,rfl,rfl,hd,hd2,hd3⟩:=hrel
    have hnd:Fl.Nm q d:=⟨hn.lo,hn.hi,by have:=hnc.least;omega,by omega⟩
    clear g1
    by_cases h3:d< -52
    ·have l1:=qO hnd h3
     by_cases h4:-126<e0 -d
     ·have g2:=mL hnd (by omega)
      have h4':decide (-126<e0 -d)=true:=by simp;omega
      go_wp2
      go_round
      case rel=>exact ⟨d+1,rfl,by go_num,by omega,by omega,by omega⟩
      case measure=>simp[intOf];omega
     ·exfalso;omega
    ·have hd52:d=-52:=by omega
     subst hd52
     have l1:=aER hnd (by omega)
     obtain ⟨fa,fb,s1,s2,s3⟩:=Fl.frac_W hnd
     have k1:=fun w=>run_float_arith (P:=prog) w .sub 235 .f64 _ _ _ s1
     have k2:=fun w=>run_float_arith (P:=prog) w .mul 235 .f64 _ _ _ s2
     have k3:=fun w=>run_convert_float_int (P:=prog) w 235 3 .f64 .i64 fb _ (by rw[underlying235];rfl) underlying3 s3
     clear s1 s2 s3
     have hzl:(q -4503599627370496) / 536870912<8388608:=by have:=hn.lo;have:=hn.hi;omega
     generalize (q -4503599627370496) / 536870912=z at *
     go_wp2
     go_ret
     refine ⟨eD ?_,rfl⟩
     have:=HR.out
     omega
theorem oL (r:Nat)(h0:0<r)(h1:r<8388608)(w:World):
  Calls prog 201 #[.float .f32 (r+2147483648)] w fun e w'=>e=.returned (.int .i64 ((r:Int)+2147483648))/\w'=w:=by
 obtain ⟨e0,q,hn,hw,hlo,hhi,hres⟩:=Fl.pattern_small r h0 h1
 have hcv:=oJ r q e0 (by omega) hn hw
 have ord:FloatKind.f32.format.order r 0=some .gt:=by
  rw[pI r (by omega),if_neg (by omega)]
  have:r / 2147483648=0:=by omega
  rw[this];rfl
 have ordb:FloatKind.f32.format.order (r+2147483648) 0=some .lt:=by
  rw[pI _ (by omega),if_neg (by omega)]
  have:(r+2147483648) / 2147483648=1:=by omega
  rw[this];rfl
 have hng:=mM (r+2147483648) (by omega) (by omega)
 rw[Nat.add_sub_cancel] at hng
 have HR:=Hid.mk' hres
 clear hw hres
 go_enter func201,ntmps201
 go_wp2
 go_loop [4,5] (fun v i=>∃c:Int,v=.float .f64 (Fl.W q c)/\i=.int .i64 (e0 -c)/\c<=e0/\(c=e0∨-52<=c)) (fun _ i=>(e0+60 -intOf i).toNat)
 case atStart=>exact ⟨e0,rfl,by rw[Int.sub_self],by omega,.inl rfl⟩
 case round=>
  obtain ⟨c,rfl,rfl,hc,hcc⟩:=hrel
  have hnc:Fl.Nm q c:=⟨hn.lo,hn.hi,by have:=hn.least;omega,by have:=hn.most;omega⟩
  by_cases h2:-51<=c
  ·have g1:=qN hnc h2
   have g2:=oI hnc (by omega)
   go_wp2
   go_round
   case rel=>exact ⟨c -1,rfl,by go_num,by omega,.inr (by omega)⟩
   case measure=>simp[intOf];omega
  ·have g1:=vG hnc (by omega)
   clear hcv
   go_wp2
   go_loop [4,5] (fun v i=>∃d:Int,v=.float .f64 (Fl.W q d)/\i=.int .i64 (e0 -d)/\c<=d/\d<=-52/\ -126<=e0 -d) (fun _ i=>(intOf i+200).toNat)
   case atStart=>exact ⟨c,rfl,rfl,by omega,by omega,by omega⟩
   case round=>
    obtain ⟨d,rfl,rfl,hd,hd2,hd3⟩:=hrel
    have hnd:Fl.Nm q d:=⟨hn.lo,hn.hi,by have:=hnc.least;omega,by omega⟩
    clear g1
    by_cases h3:d< -52
    ·have l1:=qO hnd h3
     by_cases h4:-126<e0 -d
     ·have g2:=mL hnd (by omega)
      have h4':decide (-126<e0 -d)=true:=by simp;omega
      go_wp2
      go_round
      case rel=>exact ⟨d+1,rfl,by go_num,by omega,by omega,by omega⟩
      case measure=>simp[intOf];omega
     ·have hd6:d=e0+126:=by omega
      have h4':decide (-126<e0 -d)=false:=by simp;omega
      have s1:=Fl.mul_pow (c:=-29) hnd ⟨by omega,by omega,by omega,by omega⟩ (by omega) (by omega)
      rw[<- Fl.big_W] at s1
      have hn3:Fl.Nm q (d+-29+52):=⟨hn.lo,hn.hi,by omega,by omega⟩
      have s3:=Fl.toInt_W hn3 (by omega)
      have hzr:q / 2 ^ (-(d+-29+52)).toNat=r:=by
       have:=HR.out
       rw[show d+-29+52=e0+126+23 by omega];exact this
      rw[hzr] at s3
      have k1:=fun w=>run_float_arith (P:=prog) w .mul 235 .f64 _ _ _ s1
      have k3:=fun w=>run_convert_float_int (P:=prog) w 235 3 .f64 .i64 _ _ (by rw[underlying235];rfl) underlying3 s3
      clear s1 s3 hzr hd6
      go_wp2
      go_ret
      refine ⟨eD ?_,rfl⟩
      omega
    ·have hd52:d=-52:=by omega
     exfalso;omega
end Go.Proofs.YtammnaafdhhjaaaGreat
namespace Go.Proofs.YtammnaafdhhjaaaGreat
open Go.RowKit Go.Proofs.Tryz
open Ieee (Datum)
def bB (b:Nat):Bool:=decide (b % 2147483648<2139095040)
theorem vH (w:World):Calls prog 201 #[.float .f32 0] w fun e w'=>e=.returned (.int .i64 0)/\w'=w:=by
 have o1:FloatKind.f32.format.order 0 0=some .eq:=by decide+kernel
 have o2:FloatKind.f32.format.order 2139095040 0=some .gt:=by decide+kernel
 have q1:=fun w=>run_float_arith (P:=prog) w .quo 33 .f32 1065353216 0 2139095040 (by decide+kernel)
 go_enter func201,ntmps201
 go_wp2
 go_ret
 exact ⟨rfl,rfl⟩
theorem rN (w:World):Calls prog 201 #[.float .f32 2147483648] w fun e w'=>e=.returned (.int .i64 2147483648)/\w'=w:=by
 have o1:FloatKind.f32.format.order 0 0=some .eq:=by decide+kernel
 have o3:FloatKind.f32.format.order 2147483648 0=some .eq:=by decide+kernel
 have o2:FloatKind.f32.format.order 4286578688 0=some .lt:=by decide+kernel
 have q1:=fun w=>run_float_arith (P:=prog) w .quo 33 .f32 1065353216 2147483648 4286578688 (by decide+kernel)
 have hng:=mM 2147483648 (by omega) (by omega)
 go_enter func201,ntmps201
 go_wp2
 go_ret
 exact ⟨rfl,rfl⟩
theorem hX (b:Nat)(hb:b<4294967296)(hf:bB b=true)(w:World):Calls prog 201 #[.float .f32 b] w fun e w'=>e=.returned (.int .i64 (b:Int))/\w'=w:=by
 have hf':b % 2147483648<2139095040:=of_decide_eq_true hf
 by_cases hs:b<2147483648
 ·have hm:b % 2147483648=b:=by omega
  rw[hm] at hf'
  by_cases h0:b=0
  ·subst h0;exact vH w
  ·by_cases h1:b<8388608
   ·refine (oK b (by omega) h1 w).mono ?_
    rintro e w' ⟨rfl,hw⟩;exact ⟨eD (by omega),hw⟩
   ·refine (nG b (by omega) hf' w).mono ?_
    rintro e w' ⟨rfl,hw⟩;exact ⟨eD (by omega),hw⟩
 ·obtain ⟨r,rfl⟩:∃r,b=r+2147483648:=⟨b -2147483648,by omega⟩
  have hm:(r+2147483648) % 2147483648=r:=by omega
  rw[hm] at hf'
  by_cases h0:r=0
  ·subst h0;exact rN w
  ·by_cases h1:r<8388608
   ·refine (oL r (by omega) h1 w).mono ?_
    rintro e w' ⟨rfl,hw⟩;exact ⟨eD (by omega),hw⟩
   ·refine (nJ r (by omega) hf' w).mono ?_
    rintro e w' ⟨rfl,hw⟩;exact ⟨eD (by omega),hw⟩
theorem sV {w w':World}{row:Option Nat}(h:w.grownBy w' row):w.grownBy w'.drew row:=⟨h.os,h.tape,h.output,h.size,h.block⟩
theorem rO (x y:Nat):FloatKind.f32.format.order y x=(FloatKind.f32.format.order x y).map Ordering.swap:=by
 unfold Ieee.Format.order
 generalize FloatKind.f32.format.read x=a
 generalize FloatKind.f32.format.read y=b
 cases a with
 | nan s f=>cases b<;>rfl
 | infinity s=>cases b with
  | nan t f=>rfl
  | infinity t=>cases s<;>cases t<;>rfl
  | number t m e=>cases s<;>rfl
 | number s m e=>cases b with
  | nan t f=>rfl
  | infinity t=>cases t<;>rfl
  | number t n f=>
   simp only[Datum.order,Option.map_some,Option.some.injEq]
   rw[Int.min_comm f e]
   exact Std.OrientedCmp.eq_swap
theorem aCG (x:Nat):((FloatKind.f32.format.order x 3296329728==some .gt || FloatKind.f32.format.order x 3296329728==some .eq)&&(FloatKind.f32.format.order x 1148846080==some .lt || FloatKind.f32.format.order x 1148846080==some .eq))=aS x:=by
 unfold aS
 rw[rO 3296329728 x]
 congr 1
 cases FloatKind.f32.format.order 3296329728 x with
 | none=>rfl
 | some o=>cases o<;>rfl
theorem jV (x:Nat)(w:World):Calls prog 95 #[.float .f32 x] w fun e w'=>e=.returned (.bool (aS x))/\w'=w:=by
 have hsame:=Hid.mk' (aCG x)
 go_enter func95,ntmps95
 go_wp2
 ·go_ret;exact ⟨aM hsame.out,rfl⟩
 ·rename_i hn
  go_ret
  refine ⟨aM ?_,rfl⟩
  rw[<- hsame.out]
  have h1:¬FloatKind.f32.format.order x 3296329728=some Ordering.gt:=fun e=>hn (.inl e)
  have h2:¬FloatKind.f32.format.order x 3296329728=some Ordering.eq:=fun e=>hn (.inr e)
  simp[h1,h2]
theorem aAn (b:Nat)(hf:bB b=true):FloatKind.f32.format.sub b b=some 0:=by
 have hr:FloatKind.f32.format.read b=_:=Fl.read32 b (of_decide_eq_true hf)
 unfold Ieee.Format.sub
 rw[hr]
 generalize (b / 2147483648 % 2==1)=s
 generalize Fl.mOf (b % 2147483648)=m
 generalize Fl.pOf (b % 2147483648)=p
 have hz:Ieee.signed s m (p -min p p).toNat+Ieee.signed (!s) m (p -min p p).toNat=0:=by
  unfold Ieee.signed;cases s<;>simp<;>omega
 simp only[Datum.opposite,Datum.sum,hz,if_true,Option.map_some]
 cases s<;>rfl
theorem xH (b:Nat)(hf:bB b=true)(w:World):Calls prog 175 #[.float .f32 b] w fun e w'=>e=.returned (.bool true)/\w.grownBy w' none:=by
 have o1:FloatKind.f32.format.order 0 0=some .eq:=by decide+kernel
 have q1:=fun w=>run_float_arith (P:=prog) w .sub 33 .f32 b b 0 (aAn b hf)
 go_enter func175,ntmps175
 go_wp2
 go_ret
 exact ⟨rfl,aD _ _⟩
theorem aAo (b:Nat)(hf:bB b=false):FloatKind.f32.format.sub b b=none:=by
 have hf':¬b % 2147483648<2139095040:=of_decide_eq_false hf
 unfold Ieee.Format.sub
 rcases Fl.read32_no b hf' with ⟨s,h⟩ | ⟨s,f,h⟩
 ·have hr:FloatKind.f32.format.read b=.infinity s:=h
  rw[hr]
  cases s<;>rfl
 ·have hr:FloatKind.f32.format.read b=.nan s f:=h
  rw[hr]
  rfl
theorem aCH (t:Nat)(x y:Nat):FloatKind.f32.format.order (Question.cut (.nanBits .f32 x y) t) 0=none:=by
 obtain ⟨r,hr⟩:∃r,Question.cut (.nanBits .f32 x y) t=r:=⟨_,rfl⟩
 have hv:r=(t % 2) * 2147483648+2139095040+1+(t / 2) % 8388607:=hr.symm
 rw[hr]
 have hm:r % 2147483648=2139095041+(t / 2) % 8388607:=by omega
 have h0:FloatKind.f32.format.read r=.nan (r / 2147483648 % 2==1) (r % 2147483648 -2139095040):=by
  show Ieee.single.read r=_
  unfold Ieee.Format.read
  rw[Fl.s_binade,Fl.s_inf,Fl.s_sign,Fl.s_least]
  simp only
  rw[if_neg (by omega),if_neg (by omega),if_neg (by omega)]
 unfold Ieee.Format.order
 rw[h0]
 rfl
theorem xI (b:Nat)(hf:bB b=false)(w:World):(binOp .sub 33 (.float .f32 b) (.float .f32 b)).run prog w=.ok (.float .f32 (Question.cut (.nanBits .f32 b b) (w.tape w.drawn (.nanBits .f32 b b)))) w.drew:=by
 have h:=aAo b hf
 have hq:(Question.nanBits FloatKind.f32 b b).forced=false:=rfl
 simp[binOp,Op.floatArith,h,hq,Result.andThen]
theorem aAp (b:Nat)(hf:bB b=false)(w:World):Calls prog 175 #[.float .f32 b] w fun e w'=>e=.returned (.bool false)/\w.grownBy w' none:=by
 have q1:=xI b hf
 have q2:=aCH
 go_enter func175,ntmps175
 go_wp2
 go_ret
 exact ⟨rfl,sV (aD _ _)⟩
theorem xJ (b:Nat)(w:World):Calls prog 175 #[.float .f32 b] w fun e w'=>e=.returned (.bool (bB b))/\w.grownBy w' none:=by
 cases h:bB b
 ·exact aAp b h w
 ·exact xH b h w
end Go.Proofs.YtammnaafdhhjaaaGreat
namespace Go.Proofs.YtammnaafdhhjaaaGreat
namespace Fl
open Ieee
theorem div_pow {q:Nat}{e c:Int}(h:Nm q e)(hc:Nm 4503599627370496 c)(h1:-1074<=e -c -52)(h2:e -c -52<=971):double.div (W q e) (W 4503599627370496 c)=some (W q (e -c -52)):=by
 unfold Format.div
 rw[read_W h,read_W hc,vD]
 have l1:=vF h.lo h.hi
 have l2:Nat.log2 4503599627370496=52:=vF (by omega) (by omega)
 have em:52+2+52 -52=54:=rfl
 simp only[Datum.quotient,l1,l2,em]
 rw[if_neg (by omega)]
 have e1:(q <<<54) / 4503599627370496=4 * q:=by rw[Nat.shiftLeft_eq];omega
 have e2:(q <<<54) % 4503599627370496=0:=by rw[Nat.shiftLeft_eq];omega
 rw[e1,e2]
 have hn:Nm q (e -c -52):=⟨h.lo,h.hi,h1,h2⟩
 have w:double.nearest false (2 * (4 * q)+((0:Nat) !=0).toNat) (e -c -((54:Nat):Int) -1)=W q (e -c -52):=jD (k:=3) hn (by omega) (by simp;omega)
 exact congrArg some w
theorem add_one {m k:Nat}(hm0:0<m)(hm:m<8388608)(hk:m.log2+k=52)(hq:Nm (m * 2 ^ k) (-(k:Int) -23)):double.add (W (m * 2 ^ k) (-(k:Int) -23)) 4607182418800017408=some (W ((8388608+m) * 536870912) (-52)):=by
 have h1:Nm 4503599627370496 (-52):=⟨by omega,by omega,by omega,by omega⟩
 have hL:m.log2<23:=(Nat.log2_lt (by omega)).2 hm
 have hk30:30<=k:=by omega
 unfold Format.add
 rw[one_W,read_W hq,read_W h1]
 obtain ⟨j,hj⟩:∃j,k=j+29:=⟨k -29,by omega⟩
 have hmin:min (-(k:Int) -23) (-52)=-(k:Int) -23:=by omega
 have ha:(-(k:Int) -23 -(-(k:Int) -23)).toNat=0:=by omega
 have hb:((-52:Int) -(-(k:Int) -23)).toNat=j:=by omega
 have hs:signed false (m * 2 ^ k) 0+signed false 4503599627370496 j=(((8388608+m) * 536870912 * 2 ^ j:Nat):Int):=by
  unfold signed
  simp only[Bool.false_eq_true,if_false,Nat.shiftLeft_eq]
  rw[hj,Nat.pow_add,show (2:Nat) ^ 29=536870912 from rfl,<- Int.natCast_add]
  congr 1
  generalize 2 ^ j=P
  rw[Nat.add_mul,Nat.add_mul,<- Nat.mul_assoc,Nat.mul_right_comm m P 536870912,Nat.add_comm,Nat.pow_zero,Nat.mul_one,show 8388608 * 536870912=4503599627370496 from rfl]
 have hpos:0<(8388608+m) * 536870912 * 2 ^ j:=Nat.mul_pos (by omega) (Nat.two_pow_pos j)
 have ed:Datum.sum (.number false (m * 2 ^ k) (-(k:Int) -23)) (.number false 4503599627370496 (-52))=some (.number false ((8388608+m) * 536870912 * 2 ^ j) (-(k:Int) -23)):=by
  show some (Datum.number (if signed false (m * 2 ^ k) (-(k:Int) -23 -min (-(k:Int) -23) (-52)).toNat+signed false 4503599627370496 (-52 -min (-(k:Int) -23) (-52)).toNat=0 then false&&false else decide (signed false (m * 2 ^ k) (-(k:Int) -23 -min (-(k:Int) -23) (-52)).toNat+signed false 4503599627370496 (-52 -min (-(k:Int) -23) (-52)).toNat<0)) (signed false (m * 2 ^ k) (-(k:Int) -23 -min (-(k:Int) -23) (-52)).toNat+signed false 4503599627370496 (-52 -min (-(k:Int) -23) (-52)).toNat).natAbs (min (-(k:Int) -23) (-52)))=_
  rw[hmin,ha,hb,hs,Int.natAbs_natCast]
  generalize (8388608+m) * 536870912 * 2 ^ j=Z at *
  rw[if_neg (by omega),decide_eq_false (by omega)]
 rw[ed]
 have hn:Nm ((8388608+m) * 536870912) (-52):=⟨by omega,by omega,by omega,by omega⟩
 have w:double.nearest false ((8388608+m) * 536870912 * 2 ^ j) (-(k:Int) -23)=W ((8388608+m) * 536870912) (-52):=jD (k:=j) hn (by omega) rfl
 exact congrArg some w
theorem aES:single.fractionBits=23:=rfl
theorem single_normal {M E:Nat}(h0:8388608<=M)(h1:M<16777216)(hE:1<=E)(hE2:E<=254):single.write (.number false (M * 536870912) ((E:Int) -179))=(E -1) * 8388608+M:=by
 show single.nearest false (M * 536870912) ((E:Int) -179)=_
 have hl:(M * 536870912).log2=52:=oH (k:=52) (by show 4503599627370496<=_;omega) (by show _<9007199254740992;omega)
 have hne:M * 536870912≠0:=by omega
 unfold Format.nearest
 rw[if_neg hne,aES,s_least,s_binade,s_inf,hl]
 have e1:(E:Int) -179+((52:Nat):Int) -((23:Nat):Int)=(E:Int) -150:=by omega
 have e2:max ((E:Int) -150) (-149)=(E:Int) -150:=by omega
 simp only[e1,e2]
 have e3:((E:Int) -179 -((E:Int) -150)).toNat=0:=by omega
 have e4:((E:Int) -150 -((E:Int) -179)).toNat=29:=by omega
 have e5:((E:Int) -150 -(-149)).toNat=E -1:=by omega
 have ec:Toward.even.cut false (M * 536870912) 29=M:=aIR M 29 (by omega)
 rw[e3,e4,Nat.shiftLeft_zero,ec,e5,Nat.min_eq_left (by omega)]
 rfl
theorem single_small {m k:Nat}(h0:0<m)(h1:m<8388608)(hk:m.log2+k=52):single.write (.number false (m * 2 ^ k) (-(k:Int) -149))=m:=by
 show single.nearest false (m * 2 ^ k) (-(k:Int) -149)=_
 have hL:m.log2<23:=(Nat.log2_lt (by omega)).2 h1
 have hpos:=Nat.two_pow_pos k
 have hl:(m * 2 ^ k).log2=52:=by
  apply oH
  ·have a:2 ^ m.log2<=m:=Nat.log2_self_le (by omega)
   rw[<- hk,Nat.pow_add];exact Nat.mul_le_mul_right _ a
  ·have b:m<2 ^ (m.log2+1):=Nat.lt_log2_self
   rw[<- hk,show m.log2+k+1=m.log2+1+k by omega,Nat.pow_add];exact Nat.mul_lt_mul_of_pos_right b hpos
 have hne:m * 2 ^ k≠0:=Nat.ne_of_gt (Nat.mul_pos h0 hpos)
 unfold Format.nearest
 rw[if_neg hne,aES,s_least,s_binade,s_inf,hl]
 have e2:max (-(k:Int) -149+((52:Nat):Int) -((23:Nat):Int)) (-149)=-149:=by omega
 simp only[e2]
 have e3:(-(k:Int) -149 -(-149)).toNat=0:=by omega
 have e4:((-149:Int) -(-(k:Int) -149)).toNat=k:=by omega
 have e5:((-149:Int) -(-149)).toNat=0:=rfl
 rw[e3,e4,Nat.shiftLeft_zero,aIR m k h0,e5,Nat.zero_mul,Nat.zero_add,Nat.min_eq_left (by omega)]
 rfl
end Fl
end Go.Proofs.YtammnaafdhhjaaaGreat
namespace Go.Proofs.YtammnaafdhhjaaaGreat
open Go.RowKit Go.Proofs.Tryz
theorem nK (b:Nat)(h1:b<2147483648)(w:World):(Op.unary .neg (.float .f32 b)).run prog w=.ok (.float .f32 (b+2147483648)) w:=by
 have e:Op.negFloat .f32 b=b+2147483648:=by
  have hr:b<2 ^ 31:=by omega
  show b ^^^ 2 ^ 31=b+2 ^ 31
  rw[Nat.add_comm b]
  apply Nat.eq_of_testBit_eq
  intro i
  rw[Nat.testBit_xor,Nat.testBit_two_pow]
  rcases Nat.lt_trichotomy i 31 with h | h | h
  ·rw[Nat.testBit_two_pow_add_gt h,show decide (31=i)=false from decide_eq_false (by omega),Bool.xor_false]
  ·subst h
   rw[Nat.testBit_two_pow_add_eq,Nat.testBit_lt_two_pow hr];rfl
  ·have h2:2 ^ 31+b<2 ^ i:=by
    have:2 ^ 32<=2 ^ i:=Nat.pow_le_pow_right (by decide) h
    omega
   have h3:b<2 ^ i:=by omega
   rw[Nat.testBit_lt_two_pow h2,Nat.testBit_lt_two_pow h3,show decide (31=i)=false from decide_eq_false (by omega)];rfl
 show Result.ok (Value.float .f32 (Op.negFloat .f32 b)) w=_
 rw[e]
theorem rP (n m r:Nat)(V:Int->Nat)(a b:Nat)(hn:n<4294967296)(hm:(n:Int) % 8388608=(m:Int))(hEp:1<=((n:Int) / 8388608 % 256))(hE2:((n:Int) / 8388608 % 256)<=254)(hs:n<2147483648)
  (f1:floatOfInt .f64 (m:Int)=a) (f2:Ieee.double.div a 4710765210229538816=some b) (f3:Ieee.double.add b 4607182418800017408=some (V ((n:Int) / 8388608 % 256)))
  (hmul:∀c:Int,127<c->c<=((n:Int) / 8388608 % 256)->Ieee.double.mul (V c) 4611686018427387904=some (V (c -1))) (hdiv:∀c:Int,1<=c->c<127->Ieee.double.div (V c) 4611686018427387904=some (V (c+1)))
  (hcv:floatToFloatBits .f64 (V 127) .f32=some r) (_hr:r<2147483648) (w:World):
  Calls prog 182 #[.int .i64 (n:Int)] w fun e w'=>e=.returned (.tuple #[.float .f32 r,.bool true])/\w'=w:=by
 have hn0:(0:Int)<=(n:Int):=by omega
 have hn1:(n:Int)<=4294967295:=by omega
 have k2:=fun w=>run_float_arith (P:=prog) w .quo 235 .f64 _ _ _ f2
 have k3:=fun w=>run_float_arith (P:=prog) w .add 235 .f64 _ _ _ f3
 have h255:((n:Int) / 8388608 % 256==255)=false:=by simp;omega
 have hsg:decide ((2147483648:Int)<=(n:Int))=false:=by simp;omega
 have kc:=fun w=>run_convert_float_float (P:=prog) w 235 33 .f64 .f32 _ _ (by rw[underlying235];rfl) underlying33 hcv
 have HM:=Hid.mk' hmul
 have HD:=Hid.mk' hdiv
 clear hmul hdiv f2 hcv f3
 go_enter func182,ntmps182
 go_wp2
 go_loop [6,5] (fun v i=>∃c:Int,v=.float .f64 (V c)/\i=.int .i64 c/\c<=((n:Int) / 8388608 % 256)/\1<=c/\(c=((n:Int) / 8388608 % 256)∨127<=c)) (fun _ i=>(intOf i).toNat)
 case atStart=>exact ⟨((n:Int) / 8388608 % 256),rfl,rfl,by omega,by omega,.inl rfl⟩
 case round=>
  obtain ⟨c,rfl,rfl,hc,hc1,hcc⟩:=hrel
  by_cases h2:127<c
  ·have g2:=fun w=>run_float_arith (P:=prog) w .mul 235 .f64 _ _ _ (HM.out c h2 hc)
   go_wp2
   go_round
   case rel=>exact ⟨c -1,rfl,rfl,by omega,by omega,.inr (by omega)⟩
   case measure=>simp[intOf];omega
  ·go_wp2
   go_loop [6,5] (fun v i=>∃d:Int,v=.float .f64 (V d)/\i=.int .i64 d/\1<=d/\d<=127) (fun _ i=>(200 -intOf i).toNat)
   case atStart=>exact ⟨c,rfl,rfl,by omega,by omega⟩
   case round=>
    obtain ⟨d,rfl,rfl,hd,hd2⟩:=hrel
    by_cases h3:d<127
    ·have g2:=fun w=>run_float_arith (P:=prog) w .quo 235 .f64 _ _ _ (HD.out d hd h3)
     go_wp2
     go_round
     case rel=>exact ⟨d+1,rfl,rfl,by omega,by omega⟩
     case measure=>simp[intOf];omega
    ·obtain rfl:d=127:=by omega
     go_wp2
     go_ret2
     exact ⟨rfl,rfl⟩
theorem sW (n m r:Nat)(V:Int->Nat)(a b:Nat)(hn:n<4294967296)(hm:(n:Int) % 8388608=(m:Int))(hEp:1<=((n:Int) / 8388608 % 256))(hE2:((n:Int) / 8388608 % 256)<=254)(hs:2147483648<=n)
  (f1:floatOfInt .f64 (m:Int)=a) (f2:Ieee.double.div a 4710765210229538816=some b) (f3:Ieee.double.add b 4607182418800017408=some (V ((n:Int) / 8388608 % 256)))
  (hmul:∀c:Int,127<c->c<=((n:Int) / 8388608 % 256)->Ieee.double.mul (V c) 4611686018427387904=some (V (c -1))) (hdiv:∀c:Int,1<=c->c<127->Ieee.double.div (V c) 4611686018427387904=some (V (c+1)))
  (hcv:floatToFloatBits .f64 (V 127) .f32=some r) (hr:r<2147483648) (w:World):
  Calls prog 182 #[.int .i64 (n:Int)] w fun e w'=>e=.returned (.tuple #[.float .f32 (r+2147483648),.bool true])/\w'=w:=by
 have hn0:(0:Int)<=(n:Int):=by omega
 have hn1:(n:Int)<=4294967295:=by omega
 have k2:=fun w=>run_float_arith (P:=prog) w .quo 235 .f64 _ _ _ f2
 have k3:=fun w=>run_float_arith (P:=prog) w .add 235 .f64 _ _ _ f3
 have h255:((n:Int) / 8388608 % 256==255)=false:=by simp;omega
 have hsg:decide ((2147483648:Int)<=(n:Int))=true:=by simp;omega
 have hng:=nK r hr
 have kc:=fun w=>run_convert_float_float (P:=prog) w 235 33 .f64 .f32 _ _ (by rw[underlying235];rfl) underlying33 hcv
 have HM:=Hid.mk' hmul
 have HD:=Hid.mk' hdiv
 clear hmul hdiv f2 hcv f3
 go_enter func182,ntmps182
 go_wp2
 go_loop [6,5] (fun v i=>∃c:Int,v=.float .f64 (V c)/\i=.int .i64 c/\c<=((n:Int) / 8388608 % 256)/\1<=c/\(c=((n:Int) / 8388608 % 256)∨127<=c)) (fun _ i=>(intOf i).toNat)
 case atStart=>exact ⟨((n:Int) / 8388608 % 256),rfl,rfl,by omega,by omega,.inl rfl⟩
 case round=>
  obtain ⟨c,rfl,rfl,hc,hc1,hcc⟩:=hrel
  by_cases h2:127<c
  ·have g2:=fun w=>run_float_arith (P:=prog) w .mul 235 .f64 _ _ _ (HM.out c h2 hc)
   go_wp2
   go_round
   case rel=>exact ⟨c -1,rfl,rfl,by omega,by omega,.inr (by omega)⟩
   case measure=>simp[intOf];omega
  ·go_wp2
   go_loop [6,5] (fun v i=>∃d:Int,v=.float .f64 (V d)/\i=.int .i64 d/\1<=d/\d<=127) (fun _ i=>(200 -intOf i).toNat)
   case atStart=>exact ⟨c,rfl,rfl,by omega,by omega⟩
   case round=>
    obtain ⟨d,rfl,rfl,hd,hd2⟩:=hrel
    by_cases h3:d<127
    ·have g2:=fun w=>run_float_arith (P:=prog) w .quo 235 .f64 _ _ _ (HD.out d hd h3)
     go_wp2
     go_round
     case rel=>exact ⟨d+1,rfl,rfl,by omega,by omega⟩
     case measure=>simp[intOf];omega
    ·obtain rfl:d=127:=by omega
     go_wp2
     go_ret2
     exact ⟨rfl,rfl⟩
theorem lO (n m r:Nat)(V:Int->Nat)(a b:Nat)(hn:n<4294967296)(hm:(n:Int) % 8388608=(m:Int))(hE:(n:Int) / 8388608 % 256=0)(hs:n<2147483648)
  (f1:floatOfInt .f64 (m:Int)=a) (f2:Ieee.double.div a 4710765210229538816=some b) (f3:b=V 1)
  (hmul:∀c:Int,127<c->c<=1->Ieee.double.mul (V c) 4611686018427387904=some (V (c -1))) (hdiv:∀c:Int,1<=c->c<127->Ieee.double.div (V c) 4611686018427387904=some (V (c+1)))
  (hcv:floatToFloatBits .f64 (V 127) .f32=some r) (_hr:r<2147483648) (w:World):
  Calls prog 182 #[.int .i64 (n:Int)] w fun e w'=>e=.returned (.tuple #[.float .f32 r,.bool true])/\w'=w:=by
 have hn0:(0:Int)<=(n:Int):=by omega
 have hn1:(n:Int)<=4294967295:=by omega
 have k2:=fun w=>run_float_arith (P:=prog) w .quo 235 .f64 _ _ _ f2
 subst f3
 have hsg:decide ((2147483648:Int)<=(n:Int))=false:=by simp;omega
 have kc:=fun w=>run_convert_float_float (P:=prog) w 235 33 .f64 .f32 _ _ (by rw[underlying235];rfl) underlying33 hcv
 have HM:=Hid.mk' hmul
 have HD:=Hid.mk' hdiv
 clear hmul hdiv f2 hcv
 go_enter func182,ntmps182
 go_wp2
 go_loop [6,5] (fun v i=>∃c:Int,v=.float .f64 (V c)/\i=.int .i64 c/\c<=1/\1<=c/\(c=1∨127<=c)) (fun _ i=>(intOf i).toNat)
 case atStart=>exact ⟨1,rfl,rfl,by omega,by omega,.inl rfl⟩
 case round=>
  obtain ⟨c,rfl,rfl,hc,hc1,hcc⟩:=hrel
  by_cases h2:127<c
  ·have g2:=fun w=>run_float_arith (P:=prog) w .mul 235 .f64 _ _ _ (HM.out c h2 hc)
   go_wp2
   go_round
   case rel=>exact ⟨c -1,rfl,rfl,by omega,by omega,.inr (by omega)⟩
   case measure=>simp[intOf];omega
  ·go_wp2
   go_loop [6,5] (fun v i=>∃d:Int,v=.float .f64 (V d)/\i=.int .i64 d/\1<=d/\d<=127) (fun _ i=>(200 -intOf i).toNat)
   case atStart=>exact ⟨c,rfl,rfl,by omega,by omega⟩
   case round=>
    obtain ⟨d,rfl,rfl,hd,hd2⟩:=hrel
    by_cases h3:d<127
    ·have g2:=fun w=>run_float_arith (P:=prog) w .quo 235 .f64 _ _ _ (HD.out d hd h3)
     go_wp2
     go_round
     case rel=>exact ⟨d+1,rfl,rfl,by omega,by omega⟩
     case measure=>simp[intOf];omega
    ·obtain rfl:d=127:=by omega
     go_wp2
     go_ret2
     exact ⟨rfl,rfl⟩
theorem mX (n m r:Nat)(V:Int->Nat)(a b:Nat)(hn:n<4294967296)(hm:(n:Int) % 8388608=(m:Int))(hE:(n:Int) / 8388608 % 256=0)(hs:2147483648<=n)
  (f1:floatOfInt .f64 (m:Int)=a) (f2:Ieee.double.div a 4710765210229538816=some b) (f3:b=V 1)
  (hmul:∀c:Int,127<c->c<=1->Ieee.double.mul (V c) 4611686018427387904=some (V (c -1))) (hdiv:∀c:Int,1<=c->c<127->Ieee.double.div (V c) 4611686018427387904=some (V (c+1)))
  (hcv:floatToFloatBits .f64 (V 127) .f32=some r) (hr:r<2147483648) (w:World):
  Calls prog 182 #[.int .i64 (n:Int)] w fun e w'=>e=.returned (.tuple #[.float .f32 (r+2147483648),.bool true])/\w'=w:=by
 have hn0:(0:Int)<=(n:Int):=by omega
 have hn1:(n:Int)<=4294967295:=by omega
 have k2:=fun w=>run_float_arith (P:=prog) w .quo 235 .f64 _ _ _ f2
 subst f3
 have hsg:decide ((2147483648:Int)<=(n:Int))=true:=by simp;omega
 have hng:=nK r hr
 have kc:=fun w=>run_convert_float_float (P:=prog) w 235 33 .f64 .f32 _ _ (by rw[underlying235];rfl) underlying33 hcv
 have HM:=Hid.mk' hmul
 have HD:=Hid.mk' hdiv
 clear hmul hdiv f2 hcv
 go_enter func182,ntmps182
 go_wp2
 go_loop [6,5] (fun v i=>∃c:Int,v=.float .f64 (V c)/\i=.int .i64 c/\c<=1/\1<=c/\(c=1∨127<=c)) (fun _ i=>(intOf i).toNat)
 case atStart=>exact ⟨1,rfl,rfl,by omega,by omega,.inl rfl⟩
 case round=>
  obtain ⟨c,rfl,rfl,hc,hc1,hcc⟩:=hrel
  by_cases h2:127<c
  ·have g2:=fun w=>run_float_arith (P:=prog) w .mul 235 .f64 _ _ _ (HM.out c h2 hc)
   go_wp2
   go_round
   case rel=>exact ⟨c -1,rfl,rfl,by omega,by omega,.inr (by omega)⟩
   case measure=>simp[intOf];omega
  ·go_wp2
   go_loop [6,5] (fun v i=>∃d:Int,v=.float .f64 (V d)/\i=.int .i64 d/\1<=d/\d<=127) (fun _ i=>(200 -intOf i).toNat)
   case atStart=>exact ⟨c,rfl,rfl,by omega,by omega⟩
   case round=>
    obtain ⟨d,rfl,rfl,hd,hd2⟩:=hrel
    by_cases h3:d<127
    ·have g2:=fun w=>run_float_arith (P:=prog) w .quo 235 .f64 _ _ _ (HD.out d hd h3)
     go_wp2
     go_round
     case rel=>exact ⟨d+1,rfl,rfl,by omega,by omega⟩
     case measure=>simp[intOf];omega
    ·obtain rfl:d=127:=by omega
     go_wp2
     go_ret2
     exact ⟨rfl,rfl⟩
end Go.Proofs.YtammnaafdhhjaaaGreat
namespace Go.Proofs.YtammnaafdhhjaaaGreat
open Go.RowKit Go.Proofs.Tryz
open Ieee (Datum)
theorem aET {q:Nat}{e f:Int}(h:e=f):Fl.W q e=Fl.W q f:=by rw[h]
theorem foi (m:Nat):floatOfInt .f64 (m:Int)=Ieee.double.write (.number false m 0):=by
 unfold floatOfInt FloatKind.nearest FloatKind.encode
 have h1:decide ((m:Int)<0)=false:=decide_eq_false (by omega)
 rw[h1,Int.natAbs_natCast]
 rfl
theorem aJD {q r:Nat}{e:Int}(h:Fl.Nm q e)(hw:Ieee.single.write (.number false q e)=r)(hr:r<2139095040):floatToFloatBits .f64 (Fl.W q e) .f32=some r:=by
 have hd:FloatKind.f64.decode (Fl.W q e)=.number false q e:=Fl.read_W h
 have he:FloatKind.f32.encode (.number false q e)=r:=hw
 have hdd:FloatKind.f32.decode r=_:=Fl.read32 r (by omega)
 unfold floatToFloatBits
 rw[if_neg (by decide),hd]
 show (if (FloatKind.f32.decode (FloatKind.f32.encode (.number false q e))).isInfinity then none else some (FloatKind.f32.encode (.number false q e)))=_
 rw[he,hdd]
 rfl
theorem aAq (m:Nat)(hm:m<8388608):∃a b:Nat,floatOfInt .f64 (m:Int)=a/\Ieee.double.div a 4710765210229538816=some b/\Ieee.double.add b 4607182418800017408=some (Fl.W ((8388608+m) * 536870912) (-52))∧
  ((m=0/\b=0)∨∃k,0<m/\m.log2+k=52/\Fl.Nm (m * 2 ^ k) (-(k:Int) -23)/\b=Fl.W (m * 2 ^ k) (-(k:Int) -23)):=by
 by_cases h0:m=0
 ·subst h0
  refine ⟨0,0,by decide+kernel,by decide+kernel,by decide+kernel,.inl ⟨rfl,rfl⟩⟩
 ·obtain ⟨k,q,hk,hl,hq,hn,hw⟩:=Fl.write_any (mag:=m) (p:=0) (by omega) (by omega) (by omega) (by omega)
  subst hq
  have hb:Fl.Nm 4503599627370496 (-29):=⟨by omega,by omega,by omega,by omega⟩
  have hd:=Fl.div_pow hn hb (by omega) (by omega)
  rw[<- Fl.big_W] at hd
  have ee:(0:Int) -(k:Int) - -29 -52=-(k:Int) -23:=by omega
  rw[ee] at hd
  have hn2:Fl.Nm (m * 2 ^ k) (-(k:Int) -23):=⟨hn.lo,hn.hi,by omega,by omega⟩
  refine ⟨_,_,by rw[foi];exact hw,hd,Fl.add_one (by omega) hm hl hn2,.inr ⟨k,by omega,hl,hn2,rfl⟩⟩
theorem aEU (n:Nat)(hn:n<4294967296)(hE:(n:Int) / 8388608 % 256=255)(w:World):
  Calls prog 182 #[.int .i64 (n:Int)] w fun e w'=>e=.returned (.tuple #[.float .f32 0,.bool false])/\w'=w:=by
 have hn0:(0:Int)<=(n:Int):=by omega
 have hn1:(n:Int)<=4294967295:=by omega
 go_enter func182,ntmps182
 go_wp2
 go_ret2
 exact ⟨rfl,rfl⟩
theorem tR {a b:Nat}(h:a=b):Ending.returned (.tuple #[.float .f32 a,.bool true])=.returned (.tuple #[.float .f32 b,.bool true]):=by rw[h]
theorem aCI (n:Nat)(hn:n<4294967296)(hE:(n:Int) / 8388608 % 256≠255)(w:World):
  Calls prog 182 #[.int .i64 (n:Int)] w fun e w'=>e=.returned (.tuple #[.float .f32 n,.bool true])/\w'=w:=by
 obtain ⟨m,hm⟩:∃m,n % 8388608=m:=⟨_,rfl⟩
 obtain ⟨E,hEE⟩:∃E,n / 8388608 % 256=E:=⟨_,rfl⟩
 have hmI:(n:Int) % 8388608=(m:Int):=by omega
 have hEI:(n:Int) / 8388608 % 256=(E:Int):=by omega
 have hm8:m<8388608:=by omega
 obtain ⟨a,b,f1,f2,f3,fb⟩:=aAq m hm8
 by_cases hE0:E=0
 ·have hEz:(n:Int) / 8388608 % 256=0:=by omega
  rcases fb with ⟨hz,rfl⟩ | ⟨k,hmp,hl,hnm,rfl⟩
  ·have d0:Ieee.double.div 0 4611686018427387904=some 0:=by decide+kernel
   have c0:floatToFloatBits .f64 0 .f32=some 0:=by decide+kernel
   by_cases hs:n<2147483648
   ·refine (lO n m 0 (fun _=>0) a 0 hn hmI hEz hs f1 f2 rfl (fun c h1 h2=>by omega) (fun _ _ _=>d0) c0 (by omega) w).mono ?_
    rintro e w' ⟨rfl,hw⟩;exact ⟨tR (by omega),hw⟩
   ·refine (mX n m 0 (fun _=>0) a 0 hn hmI hEz (by omega) f1 f2 rfl (fun c h1 h2=>by omega) (fun _ _ _=>d0) c0 (by omega) w).mono ?_
    rintro e w' ⟨rfl,hw⟩;exact ⟨tR (by omega),hw⟩
  ·have hL:m.log2<23:=(Nat.log2_lt (by omega)).2 hm8
   have hV:∀c:Int,1<=c->c<=127->Fl.Nm (m * 2 ^ k) (-(k:Int) -22 -c):=fun c h1 h2=>⟨hnm.lo,hnm.hi,by omega,by omega⟩
   have hdv:∀c:Int,1<=c->c<127->Ieee.double.div (Fl.W (m * 2 ^ k) (-(k:Int) -22 -c)) 4611686018427387904=some (Fl.W (m * 2 ^ k) (-(k:Int) -22 -(c+1))):=fun c h1 h2=>by
    rw[Fl.half_W (hV c h1 (by omega)) (by omega)];exact congrArg some (aET (by omega))
   have hcv:floatToFloatBits .f64 (Fl.W (m * 2 ^ k) (-(k:Int) -22 -127)) .f32=some m:=aJD (hV 127 (by omega) (by omega)) (by rw[show -(k:Int) -22 -127=-(k:Int) -149 by omega];exact Fl.single_small hmp hm8 hl) (by omega)
   have hst:Fl.W (m * 2 ^ k) (-(k:Int) -23)=(fun c:Int=>Fl.W (m * 2 ^ k) (-(k:Int) -22 -c)) 1:=aET (by omega)
   by_cases hs:n<2147483648
   ·refine (lO n m m (fun c=>Fl.W (m * 2 ^ k) (-(k:Int) -22 -c)) a _ hn hmI hEz hs f1 f2 hst (fun c h1 h2=>by omega) hdv hcv (by omega) w).mono ?_
    rintro e w' ⟨rfl,hw⟩;exact ⟨tR (by omega),hw⟩
   ·refine (mX n m m (fun c=>Fl.W (m * 2 ^ k) (-(k:Int) -22 -c)) a _ hn hmI hEz (by omega) f1 f2 hst (fun c h1 h2=>by omega) hdv hcv (by omega) w).mono ?_
    rintro e w' ⟨rfl,hw⟩;exact ⟨tR (by omega),hw⟩
 ·have hV:∀c:Int,1<=c->c<=254->Fl.Nm ((8388608+m) * 536870912) (-52+(n:Int) / 8388608 % 256 -c):=fun c h1 h2=>⟨by omega,by omega,by omega,by omega⟩
  have hml:∀c:Int,127<c->c<=(n:Int) / 8388608 % 256->Ieee.double.mul (Fl.W ((8388608+m) * 536870912) (-52+(n:Int) / 8388608 % 256 -c)) 4611686018427387904=some (Fl.W ((8388608+m) * 536870912) (-52+(n:Int) / 8388608 % 256 -(c -1))):=fun c h1 h2=>by
   rw[Fl.twice_W (hV c (by omega) (by omega)) (by omega)];exact congrArg some (aET (by omega))
  have hdv:∀c:Int,1<=c->c<127->Ieee.double.div (Fl.W ((8388608+m) * 536870912) (-52+(n:Int) / 8388608 % 256 -c)) 4611686018427387904=some (Fl.W ((8388608+m) * 536870912) (-52+(n:Int) / 8388608 % 256 -(c+1))):=fun c h1 h2=>by
   rw[Fl.half_W (hV c h1 (by omega)) (by omega)];exact congrArg some (aET (by omega))
  have hcv:floatToFloatBits .f64 (Fl.W ((8388608+m) * 536870912) (-52+(n:Int) / 8388608 % 256 -127)) .f32=some ((E -1) * 8388608+(8388608+m)):=by
   refine aJD (hV 127 (by omega) (by omega)) ?_ (by omega)
   rw[hEI,show -52+(E:Int) -127=(E:Int) -179 by omega]
   exact Fl.single_normal (by omega) (by omega) (by omega) (by omega)
  have f3':Ieee.double.add b 4607182418800017408=some ((fun c:Int=>Fl.W ((8388608+m) * 536870912) (-52+(n:Int) / 8388608 % 256 -c)) ((n:Int) / 8388608 % 256)):=by
   rw[f3];exact congrArg some (aET (by omega))
  by_cases hs:n<2147483648
  ·refine (rP n m ((E -1) * 8388608+(8388608+m)) (fun c=>Fl.W ((8388608+m) * 536870912) (-52+(n:Int) / 8388608 % 256 -c)) a b hn hmI (by omega) (by omega) hs f1 f2 f3' hml hdv hcv (by omega) w).mono ?_
   rintro e w' ⟨rfl,hw⟩;exact ⟨tR (by omega),hw⟩
  ·refine (sW n m ((E -1) * 8388608+(8388608+m)) (fun c=>Fl.W ((8388608+m) * 536870912) (-52+(n:Int) / 8388608 % 256 -c)) a b hn hmI (by omega) (by omega) (by omega) f1 f2 f3' hml hdv hcv (by omega) w).mono ?_
   rintro e w' ⟨rfl,hw⟩;exact ⟨tR (by omega),hw⟩
end Go.Proofs.YtammnaafdhhjaaaGreat
