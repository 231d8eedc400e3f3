import Derived.Lib.ConvBytes
import Derived.Test.YtammnaafdhhjaaaGreatB1
set_option maxHeartbeats 16000000
set_option maxRecDepth 100000
namespace Go.Proofs.YtammnaafdhhjaaaGreat
open Go.RowKit Go.Proofs.Tryz
theorem aJ {B:Nat}{e:TypeId}{size:Nat}{v:Value}{n:Nat}{xs:List Value}{w:World}(h:w.ownsRow B e size v n xs):∃a c,v=.slice a n c:=by
 rcases h.2 with ⟨rfl,rfl⟩ | ⟨g,cap,cur,rfl,_⟩
 ·exact ⟨_,_,rfl⟩
 ·exact ⟨_,_,rfl⟩
theorem kJ (a b:List UInt8):S a++S b=S (a++b):=by
 apply ByteArray.ext;simp[S]
theorem dM (r:Rc)(hm:aP r=true):3<=(enc r).length/\(enc r).length<=1100:=by
 have h:=qZ r hm
 have h1:1<=(cG r).length:=by
  unfold cG
  repeat' split
  all_goals simp
 unfold enc
 rw[List.length_append,dZ]
 omega
theorem aAj (l:List UInt8)(w:World)(hl:l.length<=maxLen):
  Calls prog 154 #[.string (S l)] w fun e w'=>e=.returned (.int .i64 (lE l))/\w'=w:=by
 unfold maxLen at hl
 obtain ⟨n,hn⟩:∃n,(S l).size=n:=⟨_,rfl⟩
 have HN:=Hid.mk' hn
 have hnl:Hid (n=l.length):=by show n=l.length;rw[<- hn];exact aQ l
 have hnm:n<=9223372036854775807:=by rw[hnl.out];omega
 go_enter func154,ntmps154
 go_wp2
 go_loop [3,4] (fun t i=>∃k:Nat,k<=n/\i=.int .i64 k/\t=.int .i64 (lE (l.take k))) (fun _ i=>n -(intOf i).toNat)
 case atStart=>exact ⟨0,Nat.zero_le _,rfl,rfl⟩
 case round=>
  obtain ⟨k,hk,rfl,rfl⟩:=hrel
  obtain ⟨hd0,hd1⟩:=qJ (l.take k)
  by_cases hlt:k<n
  ·have hkl:k<l.length:=by rw[<- hnl.out];exact hlt
   have hks:k<(S l).size:=by rw[HN.out];exact hlt
   have hts:Hid (l.take (k+1)=l.take k++[(S l)[k]]):=by
    show _=_
    rw[kR l k hkl];rfl
   generalize hA:lE (l.take k)=A at *
   have HA:=Hid.mk' hA
   clear hA
   have hc:=(S l)[k].toNat_lt
   go_wp2
   go_round
   case rel=>exact ⟨k+1,by omega,by go_num,by rw[hts.out,pC,HA.out,Int.mul_comm 31 A]⟩
   case measure=>simp[intOf];omega
  ·go_wp2
   go_ret
   exact ⟨eD (by rw[List.take_of_length_le (by rw[<- hnl.out];omega)]),rfl⟩
def gF:Nat->Int->List UInt8
 | 0,_=>[]
 | k+1,n=>gF k (n / 256)++[u8 (n % 256)]
def shN:Nat->Int->Int
 | 0,n=>n
 | k+1,n=>shN k n / 256
theorem aIM (k:Nat)(n:Int)(h0:0<=n)(h1:n<=4294967295):0<=shN k n/\shN k n<=4294967295:=by
 induction k with
 | zero=>exact ⟨h0,h1⟩
 | succ k ih=>unfold shN;omega
theorem aHg (k:Nat)(n:Int):shN k (n / 256)=shN k n / 256:=by
 induction k with
 | zero=>rfl
 | succ k ih=>show shN k (n / 256) / 256=_;rw[ih];rfl
theorem aCz (k:Nat)(n:Int):gF (k+1) n=u8 (shN k n % 256)::gF k n:=by
 induction k generalizing n with
 | zero=>rfl
 | succ k ih=>
  show gF (k+1) (n / 256)++[u8 (n % 256)]=_
  rw[ih (n / 256),aHg];rfl
theorem eX (k:Nat)(n:Int):(gF k n).length=k:=by
 induction k generalizing n with
 | zero=>rfl
 | succ k ih=>show (gF k (n / 256)++[u8 (n % 256)]).length=_;rw[List.length_append,ih];rfl
theorem aHh (n:Int)(h0:0<=n)(h1:n<=255):gF 1 n=[u8 n]:=by show [u8 (n % 256)]=_;rw[show n % 256=n by omega]
theorem pG (n:Int)(h0:0<=n)(h1:n<=65535):gF 2 n=n2 n:=by show [u8 (n / 256 % 256),u8 (n % 256)]=_;rw[show n / 256 % 256=n / 256 by omega];rfl
theorem aJz (b:Nat)(h1:b<4294967296):gF 4 (b:Int)=n4 b:=by
 show [u8 ((b:Int) / 256 / 256 / 256 % 256),u8 ((b:Int) / 256 / 256 % 256),u8 ((b:Int) / 256 % 256),u8 ((b:Int) % 256)]=_
 rw[show (b:Int) / 256 / 256 / 256 % 256=(b:Int) / 16777216 by omega,show (b:Int) / 256 / 256 % 256=(b:Int) / 65536 % 256 by omega]
 rfl
def aEJ (k:Nat)(n:Int):UInt8:=u8 (shN k n % 256)
theorem aHi (k:Nat)(n:Int)(_h:0<=shN k n):qI (aEJ k n)=.int .u8 (shN k n % 256):=gJ _ (by omega) (by omega)
theorem dA (n:Int)(bs:Nat)(w:World)(h0:0<=n)(h1:n<=4294967295)(hb:bs<=4):
  Calls prog 145 #[.int .i64 n,.int .i64 (bs:Int)] w fun e w'=>e=.returned (.string (S (gF bs n)))/\w.grownBy w' none:=by
 go_enter func145,ntmps145
 go_wp2
 go_loopw [0,5,6] (fun m s i wr=>∃k:Nat,k<=bs/\i=.int .i64 k/\m=.int .i64 (shN k n)/\s=.string (S (gF k n))/\w.grownBy wr none) (fun _ _ i _=>bs -(intOf i).toNat)
 case atStart=>exact ⟨0,by omega,rfl,rfl,rfl,aD _ _⟩
 case round=>
  obtain ⟨k,hk,rfl,rfl,rfl,gk⟩:=hrel
  by_cases hlt:k<bs
  ·obtain ⟨s0,s1⟩:=aIM k n h0 h1
   have E:Hid (#[.int .u8 (shN k n % 256)]=(([aEJ k n]).map qI).toArray):=by
    show _=_
    simp only[List.map_cons,List.map_nil]
    rw[aHi k n s0]
   have hst:=oB _ _ _ _ (uW wr [aEJ k n] #[.int .u8 (shN k n % 256)] E.out (by simp))
   simp only[List.length_cons,List.length_nil] at hst
   have hap:S [aEJ k n]++S (gF k n)=S (gF (k+1) n):=by rw[kJ,aCz];rfl
   have z1:(S [aEJ k n]).size=1:=rfl
   have z2:(S (gF k n)).size=k:=by rw[aQ,eX]
   go_wp2
   go_roundw
   case rel=>exact ⟨k+1,by omega,by go_num,rfl,rfl,aG gk _⟩
   case measure=>simp[intOf];omega
  ·obtain rfl:k=bs:=by omega
   go_wp2
   go_ret
   exact ⟨rfl,gk⟩
def jA (l:List UInt8)(k:Nat):Int:=((l.getD k 0).toNat:Int)
def eH (l:List UInt8)(at0:Nat):Nat->Int
 | 0=>0
 | k+1=>eH l at0 k * 256+jA l (at0+k)
theorem mI (l:List UInt8)(k:Nat):0<=jA l k/\jA l k<=255:=by
 unfold jA;have:=(l.getD k 0).toNat_lt;omega
theorem pH (l:List UInt8)(a k:Nat)(hk:k<=4):0<=eH l a k/\eH l a k<=4294967295:=by
 have h0:=mI l a
 have h1:=mI l (a+1)
 have h2:=mI l (a+2)
 have h3:=mI l (a+3)
 match k,hk with
 | 0,_=>simp only[eH];omega
 | 1,_=>simp only[eH,Nat.add_zero];omega
 | 2,_=>simp only[eH,Nat.add_zero];omega
 | 3,_=>simp only[eH,Nat.add_zero];omega
 | 4,_=>simp only[eH,Nat.add_zero];omega
theorem lM (l:List UInt8)(a:Nat):jA l a=b1 (l.drop a):=by
 unfold jA
 by_cases h:a<l.length
 ·rw[List.drop_eq_getElem_cons h,List.getD_eq_getElem?_getD,List.getElem?_eq_getElem h];rfl
 ·rw[List.drop_of_length_le (by omega),List.getD_eq_getElem?_getD,List.getElem?_eq_none (by omega)];rfl
theorem uX (l:List UInt8)(a:Nat):t1 (l.drop a)=l.drop (a+1):=by rw[eQ,List.drop_drop]
theorem oE (l:List UInt8)(a:Nat):eH l a 1=b1 (l.drop a):=by simp only[eH,Nat.add_zero];rw[lM];omega
theorem rG (l:List UInt8)(a:Nat):eH l a 2=b2 (l.drop a):=by
 simp only[eH,Nat.add_zero];unfold b2;rw[uX,lM,lM];omega
theorem aJA (l:List UInt8)(a:Nat):eH l a 4=(b4 (l.drop a):Int):=by
 have h1:=nV (l.drop a)
 have h2:=nV (l.drop (a+2))
 have e:b4 (l.drop a)=(b2 (l.drop a) * 65536+b2 (l.drop (a+2))).toNat:=by unfold b4;rw[uX,uX]
 rw[e,Int.toNat_of_nonneg (by omega),<- rG,<- rG]
 simp only[eH,Nat.add_zero]
 rw[show a+2+1=a+3 by omega]
 omega
theorem jU (l:List UInt8)(a bs:Nat)(w:World)(hl:l.length<=1000000000)(ha:a<=1000000000)(hb:bs<=4):
  Calls prog 151 #[.string (S l),.int .i64 (a:Int),.int .i64 (bs:Int)] w fun e w'=>e=.returned (.int .i64 (eH l a bs))/\w'=w:=by
 have hz:=aQ l
 go_enter func151,ntmps151
 go_wp2
 go_loop [7,8] (fun t i=>∃k:Nat,k<=bs/\i=.int .i64 k/\t=.int .i64 (eH l a k)) (fun _ i=>bs -(intOf i).toNat)
 case atStart=>exact ⟨0,by omega,rfl,rfl⟩
 case round=>
  obtain ⟨k,hk,rfl,rfl⟩:=hrel
  by_cases hlt:k<bs
  ·obtain ⟨r0,r1⟩:=pH l a k (by omega)
   have hs:Hid (eH l a (k+1)=eH l a k * 256+jA l (a+k)):=rfl
   generalize eH l a k=R at *
   by_cases hin:a+k<l.length
   ·have hks:a+k<(S l).size:=by rw[hz];exact hin
    have hbt:Hid (jA l (a+k)=(((S l)[a+k]).toNat:Int)):=by
     show _=_
     unfold jA
     rw[List.getD_eq_getElem?_getD,List.getElem?_eq_getElem hin];rfl
    have hc:=((S l)[a+k]).toNat_lt
    have hin':(a:Int)+(k:Int)<(l.length:Int):=by omega
    go_wp2
    exact ⟨⟨k+1,by omega,by go_num,by rw[hs.out,hbt.out]⟩,by simp[intOf];omega⟩
   ·have hbt:Hid (jA l (a+k)=0):=by
     show _=_
     unfold jA
     rw[List.getD_eq_getElem?_getD,List.getElem?_eq_none (by omega)];rfl
    go_wp2
    go_round
    case rel=>exact ⟨k+1,by omega,by go_num,by rw[hs.out,hbt.out,Int.add_zero]⟩
    case measure=>simp[intOf];omega
  ·obtain rfl:k=bs:=by omega
   go_wp2
   go_ret
   exact ⟨rfl,rfl⟩
end Go.Proofs.YtammnaafdhhjaaaGreat
