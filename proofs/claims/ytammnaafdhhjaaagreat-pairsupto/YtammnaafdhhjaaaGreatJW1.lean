import Derived.BigQuiet
import Derived.Lib.IndexBytes
import Derived.WalkLawsBesides
import Derived.WalkSpells
import Derived.Test.YtammnaafdhhjaaaGreatRows
set_option maxHeartbeats 16000000
set_option maxRecDepth 100000
namespace Go.Proofs.YtammnaafdhhjaaaGreat
open Go.RowKit Go.Proofs.Tryz
def S (l:List UInt8):ByteArray:=⟨l.toArray⟩
theorem bW (l:List UInt8):(S l).toList=l:=by simp[S,ByteArray.toList_eq]
theorem aQ (l:List UInt8):(S l).size=l.length:=by simp[S,ByteArray.size]
theorem aII (c:UInt8)(l:List UInt8):(S (c::l)).extract 1 (S (c::l)).size=S l:=by
 apply ByteArray.ext
 apply Array.toList_inj.1
 rw[Lib.extract_to_end];simp[S]
theorem aIJ (c:UInt8)(l:List UInt8)(h:0<(S (c::l)).size):(S (c::l))[0]=c:=rfl
theorem pQ (x:Nat)(w:World):(callFunc 225 #[.float .f32 x]).run prog w=.ok (.value (.int .u32 x)) w:=by
 rw[run_callFunc_extern (P:=prog) (e:=Extern.MathFloatBits.float32bits) func225 (by kernel_rfl) (by kernel_rfl) (by kernel_rfl) (by kernel_rfl)]
 rfl
theorem wO (x:Int)(w:World):(callFunc 230 #[.int .u32 x]).run prog w=.ok (.value (.float .f32 x.toNat)) w:=by
 rw[run_callFunc_extern (P:=prog) (e:=Extern.MathFloatBits.float32frombits) func230 (by kernel_rfl) (by kernel_rfl) (by kernel_rfl) (by kernel_rfl)]
 rfl
theorem aK (w:World)(a:Addr)(k:FloatKind)(n:Nat)(m:Mode):(store a (.float k n) m).run prog w=stored prog w a (.float k n) m:=run_store prog w a _ m rfl
structure Rd (b:Nat)(w w':World)(l:List UInt8):Prop where
 g:w.grownBy w' (some b)
 c:w'.cell? ⟨b,0,none⟩=some (.string (S l))
 f:w'.frozen? ⟨b,0,none⟩=false
theorem aD (w:World)(row:Option Nat):w.grownBy w row:=⟨rfl,rfl,rfl,Nat.le_refl _,fun _ _ _=>rfl⟩
theorem Rd.trans {b:Nat}{w w1 w2:World}{l l':List UInt8}(h:Rd b w w1 l)(k:Rd b w1 w2 l'):Rd b w w2 l':=⟨h.g.trans k.g,k.c,k.f⟩
theorem kZ (w:World)(b o:Nat)(u:Value):w.grownBy (w.setCell ⟨b,o,none⟩ u) (some b):=
 ⟨rfl,rfl,rfl,by simp[World.setCell],fun k _ hne=>Below.heap_setCell _ _ _ _ (fun e=>hne (by rw[e]))⟩
def b1:List UInt8->Int
 | []=>0
 | c::_=>(c.toNat:Int)
def t1:List UInt8->List UInt8
 | []=>[]
 | _::t=>t
theorem mU (l:List UInt8):0<=b1 l/\b1 l<=255:=by
 cases l with
 | nil=>simp[b1]
 | cons c t=>simp only[b1];have:=c.toNat_lt;omega
theorem eQ (l:List UInt8):t1 l=l.drop 1:=by cases l<;>rfl
def b2 (l:List UInt8):Int:=b1 l * 256+b1 (t1 l)
def t2 (l:List UInt8):List UInt8:=t1 (t1 l)
theorem nV (l:List UInt8):0<=b2 l/\b2 l<=65535:=by
 have h1:=mU l;have h2:=mU (t1 l);unfold b2;omega
theorem cB (l:List UInt8)(b:Nat)(w:World)(h:w.cell? ⟨b,0,none⟩=some (.string (S l)))(hf:w.frozen? ⟨b,0,none⟩=false):
  Calls prog 188 #[.pointer (some ⟨b,0,none⟩)] w fun e w'=>e=.returned (.int .i64 (b1 l))/\Rd b w w' (t1 l):=by
 cases l with
 | nil=>
  have he:(S []).toList.isEmpty=true:=by rw[bW];rfl
  go_enter func188,ntmps188
  go_wp2
  go_ret
  exact ⟨rfl,aD _ _,h,hf⟩
 | cons c t=>
  have he:(S (c::t)).toList.isEmpty=false:=by rw[bW];rfl
  have hz:0<(S (c::t)).size:=by rw[aQ];simp
  have ht:Hid ((S (c::t)).extract 1 (S (c::t)).size=S t):=aII c t
  have hh:Hid ((S (c::t))[0]=c):=aIJ c t hz
  have hw:Hid (wrap64 ((c.toNat:Nat):Int)=(c.toNat:Int)):=by have:=c.toNat_lt;show wrap64 _=_;simp[wrap64];omega
  go_enter func188,ntmps188
  go_wp2
  go_ret
  refine ⟨?_,kZ _ _ _ _,?_,?_⟩
  ·rw[hh.out];rw[hw.out];rfl
  ·rw[ht.out];exact World.cell?_setCell_same _ _ _ h
  ·simp[hf]
theorem wP (a b:Int)(h1:0<=a)(h2:a<=255)(h3:0<=b)(h4:b<=255):bits .or .i64 (a * 256) b=a * 256+b:=by
 obtain ⟨x,rfl⟩:=Int.eq_ofNat_of_zero_le h1
 obtain ⟨y,rfl⟩:=Int.eq_ofNat_of_zero_le h3
 have e:((x:Int) * 256)=((x * 256:Nat):Int):=by simp
 have hj:=nat_join 8 (x * 256) y (by omega) (by omega)
 rw[e]
 show IntKind.i64.wrap ((BitVec.ofInt 64 ((x * 256:Nat):Int) ||| BitVec.ofInt 64 (y:Int)).toNat:Int)=_
 rw[BitVec.toNat_or,ofInt_u64 _ (by omega),ofInt_u64 _ (by omega),hj]
 simp[IntKind.wrap,IntKind.bits,IntKind.signed]
 omega
theorem wQ (a b:Int)(h1:0<=a)(h2:a<=65535)(h3:0<=b)(h4:b<=65535):bits .or .u32 (a * 65536) b=a * 65536+b:=by
 obtain ⟨x,rfl⟩:=Int.eq_ofNat_of_zero_le h1
 obtain ⟨y,rfl⟩:=Int.eq_ofNat_of_zero_le h3
 have e:((x:Int) * 65536)=((x * 65536:Nat):Int):=by simp
 rw[e,u32_or_nat _ _ (by omega) (by omega),nat_join 16 (x * 65536) y (by omega) (by omega)]
 simp
theorem eD {k:IntKind}{a b:Int}(h:a=b):Ending.returned (.int k a)=.returned (.int k b):=by rw[h]
theorem aGX {k:FloatKind}{a b:Nat}(h:a=b):Ending.returned (.float k a)=.returned (.float k b):=by rw[h]
theorem aM {a b:Bool}(h:a=b):Ending.returned (.bool a)=.returned (.bool b):=by rw[h]
theorem bZ (l:List UInt8)(b:Nat)(w:World)(h:w.cell? ⟨b,0,none⟩=some (.string (S l)))(hf:w.frozen? ⟨b,0,none⟩=false):
  Calls prog 169 #[.pointer (some ⟨b,0,none⟩)] w fun e w'=>e=.returned (.int .i64 (b2 l))/\Rd b w w' (t2 l):=by
 obtain ⟨h1,h2⟩:=mU l
 obtain ⟨h3,h4⟩:=mU (t1 l)
 have hb:Hid (bits .or .i64 (b1 l * 256) (b1 (t1 l))=b2 l):=wP _ _ h1 h2 h3 h4
 go_enter func169,ntmps169
 go_wp2_with fail
 refine (cB l b _ h hf).mono ?_
 rintro e w1 ⟨rfl,r1⟩
 go_wp2_with fail
 refine (cB (t1 l) b _ r1.c r1.f).mono ?_
 rintro e w2 ⟨rfl,r2⟩
 go_wp2_with fail
 go_ret
 exact ⟨eD hb.out,r1.trans r2⟩
def b4 (l:List UInt8):Nat:=(b2 l * 65536+b2 (t1 (t1 l))).toNat
def t4 (l:List UInt8):List UInt8:=t2 (t2 l)
theorem aIq (l:List UInt8):b4 l<4294967296:=by
 have h1:=nV l;have h2:=nV (t1 (t1 l));unfold b4;omega
theorem tH (l:List UInt8)(b:Nat)(w:World)(h:w.cell? ⟨b,0,none⟩=some (.string (S l)))(hf:w.frozen? ⟨b,0,none⟩=false):
  Calls prog 214 #[.pointer (some ⟨b,0,none⟩)] w fun e w'=>e=.returned (.float .f32 (b4 l))/\Rd b w w' (t4 l):=by
 obtain ⟨h1,h2⟩:=nV l
 obtain ⟨h3,h4⟩:=nV (t2 l)
 have hb:Hid (bits .or .u32 (b2 l * 65536) (b2 (t2 l))=b2 l * 65536+b2 (t2 l)):=wQ _ _ h1 h2 h3 h4
 have hx:=wO
 go_enter func214,ntmps214
 go_wp2_with fail
 refine (bZ l b _ h hf).mono ?_
 rintro e w1 ⟨rfl,r1⟩
 go_wp2_with fail
 refine (bZ (t2 l) b _ r1.c r1.f).mono ?_
 rintro e w2 ⟨rfl,r2⟩
 go_wp2_with fail
 go_ret
 exact ⟨aGX (by rw[hb.out];rfl),r1.trans r2⟩
def qI (c:UInt8):Value:=.int .u8 (c.toNat:Int)
def u8 (n:Int):UInt8:=UInt8.ofNat n.toNat
theorem gX (n:Int)(h0:0<=n)(h1:n<256):((u8 n).toNat:Int)=n:=by
 simp[u8,UInt8.toNat_ofNat'];omega
theorem gJ (n:Int)(h0:0<=n)(h1:n<256):qI (u8 n)=.int .u8 n:=by rw[qI,gX n h0 h1]
def n2 (n:Int):List UInt8:=[u8 (n / 256),u8 (n % 256)]
def Own (B:Nat)(w:World)(v:Value)(l:List UInt8):Prop:=w.ownsRow B 5 1 v l.length (l.map qI)
structure Put (B:Nat)(w w':World)(v v':Value)(l:List UInt8):Prop where
 own:Own B w' v' l
 g:w.grownBy w' v.ownBlock
 at_:v'.ownBlock=v.ownBlock∨∃k,v'.ownBlock=some k/\w.heap.size<=k
theorem Put.trans {B:Nat}{w w1 w2:World}{v v1 v2:Value}{l l':List UInt8}(h:Put B w w1 v v1 l)(k:Put B w1 w2 v1 v2 l'):Put B w w2 v v2 l':=by
 refine ⟨k.own,⟨k.g.os.trans h.g.os,k.g.tape.trans h.g.tape,k.g.output.trans h.g.output,Nat.le_trans h.g.size k.g.size,fun i hi hne=>?_⟩,?_⟩
 ·rw[k.g.block i (Nat.lt_of_lt_of_le hi h.g.size) ?_,h.g.block i hi hne]
  rcases h.at_ with e | ⟨j,e,hj⟩
  ·rw[e];exact hne
  ·rw[e];intro e2;injection e2 with e2;omega
 ·have:=h.g.size
  rcases k.at_ with e | ⟨j,e,hj⟩
  ·rw[e];exact h.at_
  ·exact .inr ⟨j,e,by omega⟩
theorem Put.pre {B:Nat}{w w0 w1:World}{v v1:Value}{l:List UInt8}(h:w.grownBy w0 none)(k:Put B w0 w1 v v1 l):Put B w w1 v v1 l:=by
 refine ⟨k.own,⟨k.g.os.trans h.os,k.g.tape.trans h.tape,k.g.output.trans h.output,Nat.le_trans h.size k.g.size,fun i hi hne=>?_⟩,?_⟩
 ·rw[k.g.block i (Nat.lt_of_lt_of_le hi h.size) hne,h.block i hi (by simp)]
 ·have:=h.size
  rcases k.at_ with e | ⟨j,e,hj⟩
  ·exact .inl e
  ·exact .inr ⟨j,e,by omega⟩
theorem Own.alloc {B:Nat}{w:World}{v:Value}{l:List UInt8}(h:Own B w v l)(o:Obj):Own B (w.alloc o) v l:=World.ownsRow.alloc h o
theorem Own.nil (B:Nat)(w:World):Own B w (.slice none 0 0) []:=World.ownsRow_nil w B _ 1
theorem Tryz.info5':∃i,prog.info? 5=some i/\i.zero=some (.int .u8 0)/\i.size=1/\i.bytes=1:=info_parts (by kernel_rfl)
theorem eM {w:World}{ops:Array Oper}{rest:List Oper}{o:Oper}{a:Act}{Q:Exit->Act->World->Prop}(hgd:o.guard=none)(s x:Operand)
  (ho:o.op=.call {callee:=.builtin .append,args:=#[s,x],argTypes:=#[173,173]})
  (B:Nat) (v:Value) (l:List UInt8) (hs:a.eval s=v) (hown:Own B w v l) (ad:Addr) (m c:Nat) (news:List UInt8) (hx:a.eval x=.slice (some ad) m c) (hm:news.length=m)
  (hnews:∀j u,(news.map qI)[j]?=some u->w.cell? (ad.add j)=some u) (hl:l.length+m<=1000000) (hB:B<=w.heap.size)
  (h:∀v' w',Put B w w' v v' (l++news)->wpList prog ops Q rest (a.put o.dst v') w'):wpList prog ops Q (o::rest) a w:=by
 obtain ⟨i0,hi,hz0,hz1,hz2⟩:=Tryz.info5'
 refine wpList_append_own_at w hgd s x _ ho B 5 i0 (.int .u8 0) 1 1 underlying173 hi hz0 hz1 hz2 rfl (by decide) v l.length (l.map qI) hs hown ad m c (news.map qI) hx (by simp[hm]) hnews ?_ ?_ ?_ hB ?_
 ·intro u hu;obtain ⟨y,_,rfl⟩:=List.mem_map.1 hu;rfl
 ·unfold maxLen;omega
 ·omega
 ·intro v' w' h1 h2 _ h4
  refine h v' w' ⟨?_,h2,?_⟩
  ·unfold Own;rw[List.length_append,hm,List.map_append];exact h1
  ·rcases h4 with e | e
   ·exact .inl e
   ·exact .inr ⟨_,e,Nat.le_refl _⟩
theorem bS (B:Nat)(v:Value)(l:List UInt8)(n:Int)(w:World)(hown:Own B w v l)(hB:B<=w.heap.size)(hl:l.length<=900000)(h1:0<=n)(h2:n<=65535):
  Calls prog 186 #[v,.int .i64 n] w fun e w'=>∃v',e=.returned v'/\Put B w w' v v' (l++n2 n):=by
 have e1:Hid (qI (u8 (n / 256))=.int .u8 (n / 256)):=gJ _ (by omega) (by omega)
 have e2:Hid (qI (u8 (n % 256))=.int .u8 (n % 256)):=gJ _ (by omega) (by omega)
 have HO:Hid (Own B w v l):=hown
 clear hown
 go_enter func186,ntmps186
 go_wp2_with (at_builtin;refine eM rfl _ _ rfl B _ l rfl (HO.out.alloc _) ⟨w.heap.size,0,none⟩ 2 2 (n2 n) rfl rfl ?c1 ?c2 ?c3 ?c4)
 case c1=>
  intro j u hu
  match j,hu with
  | 0,hu=>simp[n2,e1.out] at hu;subst hu;simp[Addr.add]
  | 1,hu=>simp[n2,e2.out] at hu;subst hu;simp[Addr.add]
 case c2=>omega
 case c3=>simp;omega
 case c4=>
  intro v' w' hp
  go_wp2
  go_ret
  exact ⟨_,rfl,hp.pre (World.grownBy_alloc _ _ _)⟩
structure It where
 sh:Int
 nu:Int
 pl:Nat
 sp:Nat
structure En where
 sq:Int
 it:It
structure Mk where
 g:Int
 m:Int
 s:Int
 a:Int
 n:Int
structure Rc where
 kind:Int
 seq:Int
 it:It
 mks:Mk
 items:List It
 outs:List En
def It.cells (i:It):List Value:=[.int .i64 i.sh,.int .i64 i.nu,.float .f32 i.pl,.float .f32 i.sp]
def En.cells (e:En):List Value:=[.int .i64 e.sq,.int .i64 e.it.sh,.int .i64 e.it.nu,.float .f32 e.it.pl,.float .f32 e.it.sp]
def fU (l:List UInt8):It:=⟨b1 l,b2 (t1 l),b4 (t2 (t1 l)),b4 (t4 (t2 (t1 l)))⟩
def zS (l:List UInt8):List UInt8:=t4 (t4 (t2 (t1 l)))
def mF (l:List UInt8):Mk:=⟨b2 l,b2 (t2 l),b2 (t2 (t2 l)),b2 (t2 (t2 (t2 l))),b2 (t2 (t2 (t2 (t2 l))))⟩
def tI (l:List UInt8):List UInt8:=t2 (t2 (t2 (t2 (t2 l))))
theorem gC {W w':World}(g:W.grownBy w' none)(b k:Nat)(v:Value)(h:W.cell? ⟨b,k,none⟩=some v:=by go_simp):w'.cell? ⟨b,k,none⟩=some v:=g.cell h (by simp)
theorem jL {W w':World}{b:Nat}{v0 v1 v2 v3 v4 v5 v6 v7 v8 v9 v10 v11 v12:Value}(g:W.grownBy w' none)(h0:W.cell? ⟨b,0,none⟩=some v0)(h1:W.cell? ⟨b,1,none⟩=some v1)(h2:W.cell? ⟨b,2,none⟩=some v2)(h3:W.cell? ⟨b,3,none⟩=some v3)(h4:W.cell? ⟨b,4,none⟩=some v4)(h5:W.cell? ⟨b,5,none⟩=some v5)(h6:W.cell? ⟨b,6,none⟩=some v6)(h7:W.cell? ⟨b,7,none⟩=some v7)(h8:W.cell? ⟨b,8,none⟩=some v8)(h9:W.cell? ⟨b,9,none⟩=some v9)(h10:W.cell? ⟨b,10,none⟩=some v10)(h11:W.cell? ⟨b,11,none⟩=some v11)(h12:W.cell? ⟨b,12,none⟩=some v12):w'.cell? ⟨b,0,none⟩=some v0/\w'.cell? ⟨b,1,none⟩=some v1/\w'.cell? ⟨b,2,none⟩=some v2/\w'.cell? ⟨b,3,none⟩=some v3/\w'.cell? ⟨b,4,none⟩=some v4/\w'.cell? ⟨b,5,none⟩=some v5/\w'.cell? ⟨b,6,none⟩=some v6/\w'.cell? ⟨b,7,none⟩=some v7/\w'.cell? ⟨b,8,none⟩=some v8/\w'.cell? ⟨b,9,none⟩=some v9/\w'.cell? ⟨b,10,none⟩=some v10/\w'.cell? ⟨b,11,none⟩=some v11/\w'.cell? ⟨b,12,none⟩=some v12:=
 ⟨g.cell h0 (by simp),g.cell h1 (by simp),g.cell h2 (by simp),g.cell h3 (by simp),g.cell h4 (by simp),g.cell h5 (by simp),g.cell h6 (by simp),g.cell h7 (by simp),g.cell h8 (by simp),g.cell h9 (by simp),g.cell h10 (by simp),g.cell h11 (by simp),g.cell h12 (by simp)⟩
theorem qD {W w':World}(g:W.grownBy w' none)(b:Nat)(v0 v1 v2 v3 v4 v5 v6 v7 v8 v9 v10 v11 v12:Value)(h0:W.cell? ⟨b,0,none⟩=some v0:=by go_simp)(h1:W.cell? ⟨b,1,none⟩=some v1:=by go_simp)(h2:W.cell? ⟨b,2,none⟩=some v2:=by go_simp)(h3:W.cell? ⟨b,3,none⟩=some v3:=by go_simp)(h4:W.cell? ⟨b,4,none⟩=some v4:=by go_simp)(h5:W.cell? ⟨b,5,none⟩=some v5:=by go_simp)(h6:W.cell? ⟨b,6,none⟩=some v6:=by go_simp)(h7:W.cell? ⟨b,7,none⟩=some v7:=by go_simp)(h8:W.cell? ⟨b,8,none⟩=some v8:=by go_simp)(h9:W.cell? ⟨b,9,none⟩=some v9:=by go_simp)(h10:W.cell? ⟨b,10,none⟩=some v10:=by go_simp)(h11:W.cell? ⟨b,11,none⟩=some v11:=by go_simp)(h12:W.cell? ⟨b,12,none⟩=some v12:=by go_simp):w'.cell? ⟨b,0,none⟩=some v0/\w'.cell? ⟨b,1,none⟩=some v1/\w'.cell? ⟨b,2,none⟩=some v2/\w'.cell? ⟨b,3,none⟩=some v3/\w'.cell? ⟨b,4,none⟩=some v4/\w'.cell? ⟨b,5,none⟩=some v5/\w'.cell? ⟨b,6,none⟩=some v6/\w'.cell? ⟨b,7,none⟩=some v7/\w'.cell? ⟨b,8,none⟩=some v8/\w'.cell? ⟨b,9,none⟩=some v9/\w'.cell? ⟨b,10,none⟩=some v10/\w'.cell? ⟨b,11,none⟩=some v11/\w'.cell? ⟨b,12,none⟩=some v12:=
 jL g h0 h1 h2 h3 h4 h5 h6 h7 h8 h9 h10 h11 h12
theorem oY {w w':World}{T:TypeId}{v0 v1 v2 v3 v4 v5 v6 v7 v8 v9 v10 v11 v12:Value}(g:(w.alloc (.cells #[v0,v1,v2,v3,v4,v5,v6,v7,v8,v9,v10,v11,v12] T)).grownBy w' none):w'.cell? ⟨w.heap.size,0,none⟩=some v0/\w'.cell? ⟨w.heap.size,1,none⟩=some v1/\w'.cell? ⟨w.heap.size,2,none⟩=some v2/\w'.cell? ⟨w.heap.size,3,none⟩=some v3/\w'.cell? ⟨w.heap.size,4,none⟩=some v4/\w'.cell? ⟨w.heap.size,5,none⟩=some v5/\w'.cell? ⟨w.heap.size,6,none⟩=some v6/\w'.cell? ⟨w.heap.size,7,none⟩=some v7/\w'.cell? ⟨w.heap.size,8,none⟩=some v8/\w'.cell? ⟨w.heap.size,9,none⟩=some v9/\w'.cell? ⟨w.heap.size,10,none⟩=some v10/\w'.cell? ⟨w.heap.size,11,none⟩=some v11/\w'.cell? ⟨w.heap.size,12,none⟩=some v12:=
 jL g (by go_simp) (by go_simp) (by go_simp) (by go_simp) (by go_simp) (by go_simp) (by go_simp) (by go_simp) (by go_simp) (by go_simp) (by go_simp) (by go_simp) (by go_simp)
theorem Rd.keep {b:Nat}{w w':World}{l:List UInt8}(r:Rd b w w' l){k o:Nat}{v:Value}(h:w.cell? ⟨k,o,none⟩=some v)(hne:k≠b):w'.cell? ⟨k,o,none⟩=some v:=
 r.g.cell h (by intro e;injection e with e;exact hne e)
theorem Rd.kC {b:Nat}{w w':World}{l:List UInt8}(r:Rd b w w' l)(k o:Nat)(v:Value)(hne:k≠b:=by omega)(h:w.cell? ⟨k,o,none⟩=some v:=by go_simp):w'.cell? ⟨k,o,none⟩=some v:=r.keep h hne
theorem Rd.thaw {b:Nat}{w w':World}{l:List UInt8}(r:Rd b w w' l){k:Nat}(h:∀o,w.frozen? ⟨k,o,none⟩=false)(hk:k<w.heap.size)(hne:k≠b):∀o,w'.frozen? ⟨k,o,none⟩=false:=by
 intro o
 rw[World.frozen?_of_block (a:=⟨k,o,none⟩) (r.g.block k hk (by intro e;injection e with e;exact hne e))];exact h o
theorem Rd.size {b:Nat}{w w':World}{l:List UInt8}(r:Rd b w w' l):w.heap.size<=w'.heap.size:=r.g.size
theorem aB {w w':World}{row:Option Nat}(h:w.grownBy w' row){k:Nat}(hk:w.heap.size<=k)(o:Nat)(u:Value):w.grownBy (w'.setCell ⟨k,o,none⟩ u) row:=
 ⟨h.os,h.tape,h.output,by simpa [World.setCell] using h.size,fun i hi hne=>(Below.heap_setCell _ _ _ _ (by simp;omega)).trans (h.block i hi hne)⟩
theorem aG {w w':World}{row:Option Nat}(h:w.grownBy w' row)(o:Obj):w.grownBy (w'.alloc o) row:=h.trans (World.grownBy_alloc _ _ _)
theorem Rd.pre {b:Nat}{w W w':World}{l:List UInt8}(h:w.grownBy W (some b))(r:Rd b W w' l):Rd b w w' l:=⟨h.trans r.g,r.c,r.f⟩
theorem Rd.store {b:Nat}{w w':World}{l:List UInt8}(r:Rd b w w' l)(hb:b<w.heap.size){k:Nat}(hk:w.heap.size<=k)(o:Nat)(u:Value):Rd b w (w'.setCell ⟨k,o,none⟩ u) l:=by
 have hne:b≠k:=by omega
 have hbl:=Below.heap_setCell w' ⟨k,o,none⟩ u b hne
 exact ⟨aB r.g hk o u,(World.cell?_of_block (a:=⟨b,0,none⟩) hbl).trans r.c,(World.frozen?_of_block (a:=⟨b,0,none⟩) hbl).trans r.f⟩
theorem Rd.alloc {b:Nat}{w w':World}{l:List UInt8}(r:Rd b w w' l)(o:Obj):Rd b w (w'.alloc o) l:=by
 have hbl:=Below.heap_alloc w' o b (World.block_lt_of_cell? w' _ r.c)
 exact ⟨aG r.g o,(World.cell?_of_block (a:=⟨b,0,none⟩) hbl).trans r.c,(World.frozen?_of_block (a:=⟨b,0,none⟩) hbl).trans r.f⟩
theorem aEj (l:List UInt8)(b:Nat)(w:World)(h:w.cell? ⟨b,0,none⟩=some (.string (S l)))(hf:w.frozen? ⟨b,0,none⟩=false):
  Calls prog 190 #[.pointer (some ⟨b,0,none⟩)] w fun e w'=>e=.returned (.agg #[.int .i64 (b1 l),.int .i64 (b2 (t1 l))])/\Rd b w w' (t2 (t1 l)):=by
 have hb:b<w.heap.size:=World.block_lt_of_cell? w _ h
 go_enter func190,ntmps190
 go_wp2_with fail
 refine Calls.mono (cB (l) b _ ?_ ?_) ?_
 ·go_simp
 ·go_simp
 rintro e w1 ⟨rfl,r1⟩
 have c1_0_0:=r1.kC w.heap.size 0 (.int .i64 0)
 have c1_0_1:=r1.kC w.heap.size 1 (.int .i64 0)
 have f1_0:∀o,w1.frozen? ⟨w.heap.size,o,none⟩=false:=r1.thaw (fun o=>by go_simp) (by simp;try omega) (by omega)
 have c1_1_0:=r1.kC (w.heap.size+1) 0 (.int .i64 0)
 have c1_1_1:=r1.kC (w.heap.size+1) 1 (.int .i64 0)
 have f1_1:∀o,w1.frozen? ⟨w.heap.size+1,o,none⟩=false:=r1.thaw (fun o=>by go_simp) (by simp;try omega) (by omega)
 have z1:=r1.size
 simp at z1
 have hc1:=r1.c
 have hf1:=r1.f
 go_wp2_with fail
 refine Calls.mono (bZ (t1 l) b _ ?_ ?_) ?_
 ·go_simp
 ·go_simp
 rintro e w2 ⟨rfl,r2⟩
 have c2_0_0:=r2.kC w.heap.size 0 (.int .i64 0)
 have c2_0_1:=r2.kC w.heap.size 1 (.int .i64 0)
 have f2_0:∀o,w2.frozen? ⟨w.heap.size,o,none⟩=false:=r2.thaw (fun o=>by go_simp) (by simp;try omega) (by omega)
 have c2_1_0:=r2.kC (w.heap.size+1) 0 (.int .i64 (b1 l))
 have c2_1_1:=r2.kC (w.heap.size+1) 1 (.int .i64 0)
 have f2_1:∀o,w2.frozen? ⟨w.heap.size+1,o,none⟩=false:=r2.thaw (fun o=>by go_simp) (by simp;try omega) (by omega)
 have z2:=r2.size
 simp at z2
 have hc2:=r2.c
 have hf2:=r2.f
 clear c1_0_0 c1_0_1 f1_0 c1_1_0 c1_1_1 f1_1 hc1 hf1
 go_wp2
 refine bodyPost_ret (v:=.agg #[.int .i64 (b1 l),.int .i64 (b2 (t1 l))]) (by simp[results,results190,go_sem, *]) rfl ⟨rfl,?_⟩
 have R1:=r1.pre (aG (World.grownBy_alloc _ _ _) _)
 have R2:=r2.pre (R1.store hb (k:=w.heap.size+1) (by omega) 0 (.int .i64 (b1 l))).g
 exact (((R2.store hb (k:=w.heap.size+1) (by omega) 1 (.int .i64 (b2 (t1 l)))).store hb (by omega) _ _).store hb (by omega) _ _)
theorem kF (l:List UInt8)(b:Nat)(w:World)(h:w.cell? ⟨b,0,none⟩=some (.string (S l)))(hf:w.frozen? ⟨b,0,none⟩=false):
  Calls prog 189 #[.pointer (some ⟨b,0,none⟩)] w fun e w'=>e=.returned (.agg #[.int .i64 (fU l).sh,.int .i64 (fU l).nu,.float .f32 (fU l).pl,.float .f32 (fU l).sp])/\Rd b w w' (zS l):=by
 have hb:b<w.heap.size:=World.block_lt_of_cell? w _ h
 have hsf:=aK
 go_enter func189,ntmps189
 go_wp2_with fail
 refine Calls.mono (aEj (l) b _ ?_ ?_) ?_
 ·go_simp
 ·go_simp
 rintro e w1 ⟨rfl,r1⟩
 have c1_0_0:=r1.kC w.heap.size 0 (.int .i64 0)
 have c1_0_1:=r1.kC w.heap.size 1 (.int .i64 0)
 have c1_0_2:=r1.kC w.heap.size 2 (.float .f32 0)
 have c1_0_3:=r1.kC w.heap.size 3 (.float .f32 0)
 have f1_0:∀o,w1.frozen? ⟨w.heap.size,o,none⟩=false:=r1.thaw (fun o=>by go_simp) (by simp;try omega) (by omega)
 have c1_1_0:=r1.kC (w.heap.size+1) 0 (.int .i64 0)
 have c1_1_1:=r1.kC (w.heap.size+1) 1 (.int .i64 0)
 have c1_1_2:=r1.kC (w.heap.size+1) 2 (.float .f32 0)
 have c1_1_3:=r1.kC (w.heap.size+1) 3 (.float .f32 0)
 have f1_1:∀o,w1.frozen? ⟨w.heap.size+1,o,none⟩=false:=r1.thaw (fun o=>by go_simp) (by simp;try omega) (by omega)
 have z1:=r1.size
 simp at z1
 have hc1:=r1.c
 have hf1:=r1.f
 go_wp2_with fail
 refine Calls.mono (tH (t2 (t1 l)) b _ ?_ ?_) ?_
 ·go_simp
 ·go_simp
 rintro e w2 ⟨rfl,r2⟩
 have c2_0_0:=r2.kC w.heap.size 0 (.int .i64 0)
 have c2_0_1:=r2.kC w.heap.size 1 (.int .i64 0)
 have c2_0_2:=r2.kC w.heap.size 2 (.float .f32 0)
 have c2_0_3:=r2.kC w.heap.size 3 (.float .f32 0)
 have f2_0:∀o,w2.frozen? ⟨w.heap.size,o,none⟩=false:=r2.thaw (fun o=>by go_simp) (by simp;try omega) (by omega)
 have c2_1_0:=r2.kC (w.heap.size+1) 0 (.int .i64 (b1 l))
 have c2_1_1:=r2.kC (w.heap.size+1) 1 (.int .i64 (b2 (t1 l)))
 have c2_1_2:=r2.kC (w.heap.size+1) 2 (.float .f32 0)
 have c2_1_3:=r2.kC (w.heap.size+1) 3 (.float .f32 0)
 have f2_1:∀o,w2.frozen? ⟨w.heap.size+1,o,none⟩=false:=r2.thaw (fun o=>by go_simp) (by simp;try omega) (by omega)
 have z2:=r2.size
 simp at z2
 have hc2:=r2.c
 have hf2:=r2.f
 clear c1_0_0 c1_0_1 c1_0_2 c1_0_3 f1_0 c1_1_0 c1_1_1 c1_1_2 c1_1_3 f1_1 hc1 hf1
 go_wp2_with fail
 refine Calls.mono (tH (t4 (t2 (t1 l))) b _ ?_ ?_) ?_
 ·go_simp
 ·go_simp
 rintro e w3 ⟨rfl,r3⟩
 have c3_0_0:=r3.kC w.heap.size 0 (.int .i64 0)
 have c3_0_1:=r3.kC w.heap.size 1 (.int .i64 0)
 have c3_0_2:=r3.kC w.heap.size 2 (.float .f32 0)
 have c3_0_3:=r3.kC w.heap.size 3 (.float .f32 0)
 have f3_0:∀o,w3.frozen? ⟨w.heap.size,o,none⟩=false:=r3.thaw (fun o=>by go_simp) (by simp;try omega) (by omega)
 have c3_1_0:=r3.kC (w.heap.size+1) 0 (.int .i64 (b1 l))
 have c3_1_1:=r3.kC (w.heap.size+1) 1 (.int .i64 (b2 (t1 l)))
 have c3_1_2:=r3.kC (w.heap.size+1) 2 (.float .f32 (b4 (t2 (t1 l))))
 have c3_1_3:=r3.kC (w.heap.size+1) 3 (.float .f32 0)
 have f3_1:∀o,w3.frozen? ⟨w.heap.size+1,o,none⟩=false:=r3.thaw (fun o=>by go_simp) (by simp;try omega) (by omega)
 have z3:=r3.size
 simp at z3
 have hc3:=r3.c
 have hf3:=r3.f
 clear c2_0_0 c2_0_1 c2_0_2 c2_0_3 f2_0 c2_1_0 c2_1_1 c2_1_2 c2_1_3 f2_1 hc2 hf2
 go_wp2
 refine bodyPost_ret (v:=.agg #[.int .i64 (fU l).sh,.int .i64 (fU l).nu,.float .f32 (fU l).pl,.float .f32 (fU l).sp]) (by simp[results,results189,go_sem,fU, *]) rfl ⟨rfl,?_⟩
 have R1:=r1.pre (aG (World.grownBy_alloc _ _ _) _)
 have R2:=r2.pre ((R1.store hb (k:=w.heap.size+1) (by omega) 0 (.int .i64 (b1 l))).store hb (k:=w.heap.size+1) (by omega) 1 (.int .i64 (b2 (t1 l)))).g
 have R3:=r3.pre (R2.store hb (k:=w.heap.size+1) (by omega) 2 (.float .f32 (b4 (t2 (t1 l))))).g
 exact (((((R3.store hb (k:=w.heap.size+1) (by omega) 3 (.float .f32 (b4 (t4 (t2 (t1 l)))))).store hb (by omega) _ _).store hb (by omega) _ _).store hb (by omega) _ _).store hb (by omega) _ _)
theorem aCq (l:List UInt8)(b:Nat)(w:World)(h:w.cell? ⟨b,0,none⟩=some (.string (S l)))(hf:w.frozen? ⟨b,0,none⟩=false):
  Calls prog 191 #[.pointer (some ⟨b,0,none⟩)] w fun e w'=>e=.returned (.agg #[.int .i64 (mF l).g,.int .i64 (mF l).m,.int .i64 (mF l).s,.int .i64 (mF l).a,.int .i64 (mF l).n])/\Rd b w w' (tI l):=by
 have hb:b<w.heap.size:=World.block_lt_of_cell? w _ h
 go_enter func191,ntmps191
 go_wp2_with fail
 refine Calls.mono (bZ (l) b _ ?_ ?_) ?_
 ·go_simp
 ·go_simp
 rintro e w1 ⟨rfl,r1⟩
 have c1_0_0:=r1.kC w.heap.size 0 (.int .i64 0)
 have c1_0_1:=r1.kC w.heap.size 1 (.int .i64 0)
 have c1_0_2:=r1.kC w.heap.size 2 (.int .i64 0)
 have c1_0_3:=r1.kC w.heap.size 3 (.int .i64 0)
 have c1_0_4:=r1.kC w.heap.size 4 (.int .i64 0)
 have f1_0:∀o,w1.frozen? ⟨w.heap.size,o,none⟩=false:=r1.thaw (fun o=>by go_simp) (by simp;try omega) (by omega)
 have c1_1_0:=r1.kC (w.heap.size+1) 0 (.int .i64 0)
 have c1_1_1:=r1.kC (w.heap.size+1) 1 (.int .i64 0)
 have c1_1_2:=r1.kC (w.heap.size+1) 2 (.int .i64 0)
 have c1_1_3:=r1.kC (w.heap.size+1) 3 (.int .i64 0)
 have c1_1_4:=r1.kC (w.heap.size+1) 4 (.int .i64 0)
 have f1_1:∀o,w1.frozen? ⟨w.heap.size+1,o,none⟩=false:=r1.thaw (fun o=>by go_simp) (by simp;try omega) (by omega)
 have z1:=r1.size
 simp at z1
 have hc1:=r1.c
 have hf1:=r1.f
 go_wp2_with fail
 refine Calls.mono (bZ (t2 l) b _ ?_ ?_) ?_
 ·go_simp
 ·go_simp
 rintro e w2 ⟨rfl,r2⟩
 have c2_0_0:=r2.kC w.heap.size 0 (.int .i64 0)
 have c2_0_1:=r2.kC w.heap.size 1 (.int .i64 0)
 have c2_0_2:=r2.kC w.heap.size 2 (.int .i64 0)
 have c2_0_3:=r2.kC w.heap.size 3 (.int .i64 0)
 have c2_0_4:=r2.kC w.heap.size 4 (.int .i64 0)
 have f2_0:∀o,w2.frozen? ⟨w.heap.size,o,none⟩=false:=r2.thaw (fun o=>by go_simp) (by simp;try omega) (by omega)
 have c2_1_0:=r2.kC (w.heap.size+1) 0 (.int .i64 (b2 (l)))
 have c2_1_1:=r2.kC (w.heap.size+1) 1 (.int .i64 0)
 have c2_1_2:=r2.kC (w.heap.size+1) 2 (.int .i64 0)
 have c2_1_3:=r2.kC (w.heap.size+1) 3 (.int .i64 0)
 have c2_1_4:=r2.kC (w.heap.size+1) 4 (.int .i64 0)
 have f2_1:∀o,w2.frozen? ⟨w.heap.size+1,o,none⟩=false:=r2.thaw (fun o=>by go_simp) (by simp;try omega) (by omega)
 have z2:=r2.size
 simp at z2
 have hc2:=r2.c
 have hf2:=r2.f
 clear c1_0_0 c1_0_1 c1_0_2 c1_0_3 c1_0_4 f1_0 c1_1_0 c1_1_1 c1_1_2 c1_1_3 c1_1_4 f1_1 hc1 hf1
 go_wp2_with fail
 refine Calls.mono (bZ (t2 (t2 l)) b _ ?_ ?_) ?_
 ·go_simp
 ·go_simp
 rintro e w3 ⟨rfl,r3⟩
 have c3_0_0:=r3.kC w.heap.size 0 (.int .i64 0)
 have c3_0_1:=r3.kC w.heap.size 1 (.int .i64 0)
 have c3_0_2:=r3.kC w.heap.size 2 (.int .i64 0)
 have c3_0_3:=r3.kC w.heap.size 3 (.int .i64 0)
 have c3_0_4:=r3.kC w.heap.size 4 (.int .i64 0)
 have f3_0:∀o,w3.frozen? ⟨w.heap.size,o,none⟩=false:=r3.thaw (fun o=>by go_simp) (by simp;try omega) (by omega)
 have c3_1_0:=r3.kC (w.heap.size+1) 0 (.int .i64 (b2 (l)))
 have c3_1_1:=r3.kC (w.heap.size+1) 1 (.int .i64 (b2 (t2 l)))
 have c3_1_2:=r3.kC (w.heap.size+1) 2 (.int .i64 0)
 have c3_1_3:=r3.kC (w.heap.size+1) 3 (.int .i64 0)
 have c3_1_4:=r3.kC (w.heap.size+1) 4 (.int .i64 0)
 have f3_1:∀o,w3.frozen? ⟨w.heap.size+1,o,none⟩=false:=r3.thaw (fun o=>by go_simp) (by simp;try omega) (by omega)
 have z3:=r3.size
 simp at z3
 have hc3:=r3.c
 have hf3:=r3.f
 clear c2_0_0 c2_0_1 c2_0_2 c2_0_3 c2_0_4 f2_0 c2_1_0 c2_1_1 c2_1_2 c2_1_3 c2_1_4 f2_1 hc2 hf2
 go_wp2_with fail
 refine Calls.mono (bZ (t2 (t2 (t2 l))) b _ ?_ ?_) ?_
 ·go_simp
 ·go_simp
 rintro e w4 ⟨rfl,r4⟩
 have c4_0_0:=r4.kC w.heap.size 0 (.int .i64 0)
 have c4_0_1:=r4.kC w.heap.size 1 (.int .i64 0)
 have c4_0_2:=r4.kC w.heap.size 2 (.int .i64 0)
 have c4_0_3:=r4.kC w.heap.size 3 (.int .i64 0)
 have c4_0_4:=r4.kC w.heap.size 4 (.int .i64 0)
 have f4_0:∀o,w4.frozen? ⟨w.heap.size,o,none⟩=false:=r4.thaw (fun o=>by go_simp) (by simp;try omega) (by omega)
 have c4_1_0:=r4.kC (w.heap.size+1) 0 (.int .i64 (b2 (l)))
 have c4_1_1:=r4.kC (w.heap.size+1) 1 (.int .i64 (b2 (t2 l)))
 have c4_1_2:=r4.kC (w.heap.size+1) 2 (.int .i64 (b2 (t2 (t2 l))))
 have c4_1_3:=r4.kC (w.heap.size+1) 3 (.int .i64 0)
 have c4_1_4:=r4.kC (w.heap.size+1) 4 (.int .i64 0)
 have f4_1:∀o,w4.frozen? ⟨w.heap.size+1,o,none⟩=false:=r4.thaw (fun o=>by go_simp) (by simp;try omega) (by omega)
 have z4:=r4.size
 simp at z4
 have hc4:=r4.c
 have hf4:=r4.f
 clear c3_0_0 c3_0_1 c3_0_2 c3_0_3 c3_0_4 f3_0 c3_1_0 c3_1_1 c3_1_2 c3_1_3 c3_1_4 f3_1 hc3 hf3
 go_wp2_with fail
 refine Calls.mono (bZ (t2 (t2 (t2 (t2 l)))) b _ ?_ ?_) ?_
 ·go_simp
 ·go_simp
 rintro e w5 ⟨rfl,r5⟩
 have c5_0_0:=r5.kC w.heap.size 0 (.int .i64 0)
 have c5_0_1:=r5.kC w.heap.size 1 (.int .i64 0)
 have c5_0_2:=r5.kC w.heap.size 2 (.int .i64 0)
 have c5_0_3:=r5.kC w.heap.size 3 (.int .i64 0)
 have c5_0_4:=r5.kC w.heap.size 4 (.int .i64 0)
 have f5_0:∀o,w5.frozen? ⟨w.heap.size,o,none⟩=false:=r5.thaw (fun o=>by go_simp) (by simp;try omega) (by omega)
 have c5_1_0:=r5.kC (w.heap.size+1) 0 (.int .i64 (b2 (l)))
 have c5_1_1:=r5.kC (w.heap.size+1) 1 (.int .i64 (b2 (t2 l)))
 have c5_1_2:=r5.kC (w.heap.size+1) 2 (.int .i64 (b2 (t2 (t2 l))))
 have c5_1_3:=r5.kC (w.heap.size+1) 3 (.int .i64 (b2 (t2 (t2 (t2 l)))))
 have c5_1_4:=r5.kC (w.heap.size+1) 4 (.int .i64 0)
 have f5_1:∀o,w5.frozen? ⟨w.heap.size+1,o,none⟩=false:=r5.thaw (fun o=>by go_simp) (by simp;try omega) (by omega)
 have z5:=r5.size
 simp at z5
 have hc5:=r5.c
 have hf5:=r5.f
 clear c4_0_0 c4_0_1 c4_0_2 c4_0_3 c4_0_4 f4_0 c4_1_0 c4_1_1 c4_1_2 c4_1_3 c4_1_4 f4_1 hc4 hf4
 go_wp2
 refine bodyPost_ret (v:=.agg #[.int .i64 (mF l).g,.int .i64 (mF l).m,.int .i64 (mF l).s,.int .i64 (mF l).a,.int .i64 (mF l).n]) (by simp[results,results191,go_sem,mF, *]) rfl ⟨rfl,?_⟩
 have R1:=r1.pre (aG (World.grownBy_alloc _ _ _) _)
 have R2:=r2.pre (R1.store hb (k:=w.heap.size+1) (by omega) 0 (.int .i64 (b2 (l)))).g
 have R3:=r3.pre (R2.store hb (k:=w.heap.size+1) (by omega) 1 (.int .i64 (b2 (t2 l)))).g
 have R4:=r4.pre (R3.store hb (k:=w.heap.size+1) (by omega) 2 (.int .i64 (b2 (t2 (t2 l))))).g
 have R5:=r5.pre (R4.store hb (k:=w.heap.size+1) (by omega) 3 (.int .i64 (b2 (t2 (t2 (t2 l)))))).g
 exact ((((((R5.store hb (k:=w.heap.size+1) (by omega) 4 (.int .i64 (b2 (t2 (t2 (t2 (t2 l))))))).store hb (by omega) _ _).store hb (by omega) _ _).store hb (by omega) _ _).store hb (by omega) _ _).store hb (by omega) _ _)
def OwnI (B:Nat)(w:World)(v:Value)(is:List It):Prop:=w.ownsRow B 75 4 v is.length (is.flatMap It.cells)
def OwnE (B:Nat)(w:World)(v:Value)(es:List En):Prop:=w.ownsRow B 87 5 v es.length (es.flatMap En.cells)
theorem OwnI.nil (B:Nat)(w:World):OwnI B w (.slice none 0 0) []:=World.ownsRow_nil w B _ 4
theorem OwnE.nil (B:Nat)(w:World):OwnE B w (.slice none 0 0) []:=World.ownsRow_nil w B _ 5
theorem nW:∃i,prog.info? 75=some i/\i.zero=some (.agg #[.int .i64 0,.int .i64 0,.float .f32 0,.float .f32 0])/\i.size=4/\i.bytes=24:=info_parts (by kernel_rfl)
theorem mG:∃i,prog.info? 87=some i/\i.zero=some (.agg #[.int .i64 0,.int .i64 0,.int .i64 0,.float .f32 0,.float .f32 0])/\i.size=5/\i.bytes=32:=info_parts (by kernel_rfl)
theorem oZ (is:List It):(is.flatMap It.cells).length=is.length * 4:=by
 induction is with
 | nil=>rfl
 | cons i t ih=>rw[List.flatMap_cons,List.length_append,ih];simp[It.cells];omega
theorem fK {w:World}{ops:Array Oper}{rest:List Oper}{o:Oper}{a:Act}{Q:Exit->Act->World->Prop}(hgd:o.guard=none)(s x:Operand)
  (ho:o.op=.call {callee:=.builtin .append,args:=#[s,x],argTypes:=#[37,37]})
  (B:Nat) (v:Value) (l:List It) (hs:a.eval s=v) (hown:OwnI B w v l) (ad:Addr) (i:It) (hx:a.eval x=.slice (some ad) 1 1)
  (hnews:∀j u,i.cells[j]?=some u->w.cell? (ad.add j)=some u) (hl:l.length+1<=1000000) (hB:B<=w.heap.size)
  (h:∀v' w',OwnI B w' v' (l++[i])->w.grownBy w' v.ownBlock->(v'.ownBlock=v.ownBlock∨v'.ownBlock=some w.heap.size)->wpList prog ops Q rest (a.put o.dst v') w'):wpList prog ops Q (o::rest) a w:=by
 obtain ⟨i0,hi,hz0,hz1,hz2⟩:=nW
 refine wpList_append_own_at w hgd s x _ ho B 75 i0 _ 4 24 underlying37 hi hz0 hz1 hz2 rfl (by decide) v l.length (l.flatMap It.cells) hs hown ad 1 1 i.cells hx rfl hnews ?_ ?_ ?_ hB ?_
 ·intro u hu;simp[It.cells] at hu;rcases hu with rfl | rfl | rfl | rfl<;>rfl
 ·unfold maxLen;omega
 ·omega
 ·intro v' w' h1 h2 _ h4
  refine h v' w' ?_ h2 h4
  unfold OwnI;rw[List.length_append,List.flatMap_append];simpa using h1
theorem aBs {w:World}{ops:Array Oper}{rest:List Oper}{o:Oper}{a:Act}{Q:Exit->Act->World->Prop}(hgd:o.guard=none)(s x:Operand)
  (ho:o.op=.call {callee:=.builtin .append,args:=#[s,x],argTypes:=#[49,49]})
  (B:Nat) (v:Value) (l:List En) (hs:a.eval s=v) (hown:OwnE B w v l) (ad:Addr) (i:En) (hx:a.eval x=.slice (some ad) 1 1)
  (hnews:∀j u,i.cells[j]?=some u->w.cell? (ad.add j)=some u) (hl:l.length+1<=1000000) (hB:B<=w.heap.size)
  (h:∀v' w',OwnE B w' v' (l++[i])->w.grownBy w' v.ownBlock->(v'.ownBlock=v.ownBlock∨v'.ownBlock=some w.heap.size)->wpList prog ops Q rest (a.put o.dst v') w'):wpList prog ops Q (o::rest) a w:=by
 obtain ⟨i0,hi,hz0,hz1,hz2⟩:=mG
 refine wpList_append_own_at w hgd s x _ ho B 87 i0 _ 5 32 underlying49 hi hz0 hz1 hz2 rfl (by decide) v l.length (l.flatMap En.cells) hs hown ad 1 1 i.cells hx rfl hnews ?_ ?_ ?_ hB ?_
 ·intro u hu;simp[En.cells] at hu;rcases hu with rfl | rfl | rfl | rfl | rfl<;>rfl
 ·unfold maxLen;omega
 ·omega
 ·intro v' w' h1 h2 _ h4
  refine h v' w' ?_ h2 h4
  unfold OwnE;rw[List.length_append,List.flatMap_append];simpa using h1
def iJ:Nat->List UInt8->List UInt8
 | 0,l=>l
 | k+1,l=>zS (iJ k l)
def fC:Nat->List UInt8->List It
 | 0,_=>[]
 | k+1,l=>fC k l++[fU (iJ k l)]
theorem qT (k:Nat)(l:List UInt8):(fC k l).length=k:=by induction k with
 | zero=>rfl
 | succ k ih=>simp[fC,ih]
def pEn (l:List UInt8):En:=⟨b2 l,fU (t2 l)⟩
def tEn (l:List UInt8):List UInt8:=zS (t2 l)
def lI:Nat->List UInt8->List UInt8
 | 0,l=>l
 | k+1,l=>tEn (lI k l)
def eC:Nat->List UInt8->List En
 | 0,_=>[]
 | k+1,l=>eC k l++[pEn (lI k l)]
theorem qU (k:Nat)(l:List UInt8):(eC k l).length=k:=by induction k with
 | zero=>rfl
 | succ k ih=>simp[eC,ih]
theorem aW (W:World)(vs:List Value)(t:TypeId)(n:Nat)(hn:W.heap.size=n):∀j u,vs[j]?=some u->(W.alloc (.cells vs.toArray t)).cell? ((⟨n,0,none⟩:Addr).add j)=some u:=by
 intro j u hu
 subst hn
 have hadd:(⟨W.heap.size,0,none⟩:Addr).add j=⟨W.heap.size,j,none⟩:=by unfold Addr.add;split<;>simp_all
 rw[hadd,cell_of_row _ W.heap.size j vs.toArray t (0,0) (heap_alloc_new W _)]
 simpa using hu
theorem uJ {B:Nat}{e:TypeId}{size:Nat}{v:Value}{n:Nat}{xs:List Value}{b:Nat}{w w':World}{l:List UInt8}(h:w.ownsRow B e size v n xs)(r:Rd b w w' l)(hb:b<B):w'.ownsRow B e size v n xs:=by
 refine h.kept r.g ?_
 cases hv:v.ownBlock with
 | none=>exact .inl rfl
 | some k=>have:=(h.lt k hv).1;exact .inr (by intro e;injection e with e;omega)
theorem Rd.app {b:Nat}{w w1 w2:World}{l:List UInt8}{v:Value}(r:Rd b w w1 l)(g:w1.grownBy w2 v.ownBlock)(hv:∀k,v.ownBlock=some k->w.heap.size<=k)(hb:b<w.heap.size):Rd b w w2 l:=by
 have hne:∀k,k<w.heap.size->some k≠v.ownBlock:=fun k hk e=>by have:=hv k e.symm;omega
 have hz:=r.g.size
 have hbl:=g.block b (by omega) (hne b hb)
 refine ⟨⟨g.os.trans r.g.os,g.tape.trans r.g.tape,g.output.trans r.g.output,Nat.le_trans r.g.size g.size,fun i hi hni=>?_⟩,(World.cell?_of_block (a:=⟨b,0,none⟩) hbl).trans r.c,(World.frozen?_of_block (a:=⟨b,0,none⟩) hbl).trans r.f⟩
 rw[g.block i (by omega) (hne i hi),r.g.block i hi hni]
theorem aCs (l:List UInt8)(n:Nat)(hn:Hid (b1 l=(n:Int)))(b:Nat)(w:World)(h:w.cell? ⟨b,0,none⟩=some (.string (S l)))(hf:w.frozen? ⟨b,0,none⟩=false):
  Calls prog 192 #[.pointer (some ⟨b,0,none⟩)] w fun e w'=>∃v,e=.returned v/\Rd b w w' (iJ n (t1 l))/\OwnI w.heap.size w' v (fC n (t1 l)):=by
 have hb:b<w.heap.size:=World.block_lt_of_cell? w _ h
 have hn1:n<=255:=by have:=(mU l).2;rw[hn.out] at this;omega
 go_enter func192,ntmps192
 go_wp2_with fail
 refine Calls.mono (cB l b _ ?_ ?_) ?_
 ·go_simp
 ·go_simp
 rintro e w1 ⟨rfl,r1⟩
 rw[hn.out]
 go_wp2_with fail
 go_loopw [3,6] (fun v i wr=>∃k:Nat,k<=n/\i=.int .i64 k/\Rd b w wr (iJ k (t1 l))/\OwnI w.heap.size wr v (fC k (t1 l))) (fun _ i _=>n -(intOf i).toNat)
 case atStart=>exact ⟨0,Nat.zero_le _,rfl,r1,OwnI.nil _ _⟩
 case round=>
  obtain ⟨k,hk,rfl,rk,ok⟩:=hrel
  have zk:=rk.size
  by_cases hlt:k<n
  ·go_wp2_with fail
   refine Calls.mono (kF (iJ k (t1 l)) b _ rk.c rk.f) ?_
   rintro e w2 ⟨rfl,r2⟩
   have z2:=r2.size
   have o2:Hid (OwnI w.heap.size w2 _ (fC k (t1 l))):=uJ ok r2 hb
   have hv:Hid (∀j,Value.ownBlock _=some j->w.heap.size<=j):=fun j hj=>(o2.out.lt j hj).1
   go_wp2_with (at_builtin;refine fK rfl _ _ rfl w.heap.size _ (fC k (t1 l)) rfl (World.ownsRow.alloc o2.out _) ⟨w2.heap.size,0,none⟩ (fU (iJ k (t1 l))) rfl ?c1 ?c2 ?c3 ?c4)
   case c1=>exact aW w2 (fU (iJ k (t1 l))).cells _ _ rfl
   case c2=>rw[qT];omega
   case c3=>simp;omega
   case c4=>
    intro v' w3 o3 g3 _
    go_wp2
    go_roundw
    case rel=>exact ⟨k+1,by omega,by go_num,((rk.trans r2).alloc _).app g3 hv.out hb,o3⟩
    case measure=>simp[intOf];omega
  ·have hkn:k=n:=by omega
   go_wp2
   go_ret
   exact ⟨_,rfl,hkn ▸ rk,hkn ▸ ok⟩
theorem aH {B:Nat}{e:TypeId}{size:Nat}{v:Value}{n:Nat}{xs:List Value}{w:World}(h:w.ownsRow B e size v n xs)(k o:Nat)(u:Value)(hk:v.ownBlock≠some k):(w.setCell ⟨k,o,none⟩ u).ownsRow B e size v n xs:=by
 refine h.kept (kZ w k o u) (.inr hk)
theorem zT (l:List UInt8)(n:Nat)(hn:Hid (b1 l=(n:Int)))(b:Nat)(w:World)(h:w.cell? ⟨b,0,none⟩=some (.string (S l)))(hf:w.frozen? ⟨b,0,none⟩=false):
  Calls prog 193 #[.pointer (some ⟨b,0,none⟩)] w fun e w'=>∃v,e=.returned v/\Rd b w w' (lI n (t1 l))/\OwnE w.heap.size w' v (eC n (t1 l)):=by
 have hb:b<w.heap.size:=World.block_lt_of_cell? w _ h
 have hn1:n<=255:=by have:=(mU l).2;rw[hn.out] at this;omega
 have hsf:=aK
 go_enter func193,ntmps193
 go_wp2_with fail
 refine Calls.mono (cB l b _ ?_ ?_) ?_
 ·go_simp
 ·go_simp
 rintro e w1 ⟨rfl,r1⟩
 rw[hn.out]
 go_wp2_with fail
 go_loopw [3,7] (fun v i wr=>∃k:Nat,k<=n/\i=.int .i64 k/\Rd b w wr (lI k (t1 l))/\OwnE w.heap.size wr v (eC k (t1 l))) (fun _ i _=>n -(intOf i).toNat)
 case atStart=>exact ⟨0,Nat.zero_le _,rfl,r1,OwnE.nil _ _⟩
 case round=>
  obtain ⟨k,hk,rfl,rk,ok⟩:=hrel
  have zk:=rk.size
  by_cases hlt:k<n
  ·have hck:=rk.c
   have hfk:=rk.f
   generalize hL:lI k (t1 l)=L at *
   have HL:Hid (lI k (t1 l)=L):=hL
   clear hL
   have OK:Hid (OwnE w.heap.size wr u3 (eC k (t1 l))):=ok
   clear ok
   have hvk:Hid (∀j,u3.ownBlock=some j->w.heap.size<=j/\j<wr.heap.size):=fun j hj=>OK.out.lt j hj
   have hbr:b<wr.heap.size:=by omega
   go_wp2_with fail
   refine Calls.mono (bZ L b _ ?_ ?_) ?_
   ·go_simp
   ·go_simp
   rintro e w2 ⟨rfl,r2⟩
   have z2:=r2.size
   simp at z2
   have c20:=r2.kC wr.heap.size 0 (.int .i64 0)
   have c21:=r2.kC wr.heap.size 1 (.int .i64 0)
   have c22:=r2.kC wr.heap.size 2 (.int .i64 0)
   have c23:=r2.kC wr.heap.size 3 (.float .f32 0)
   have c24:=r2.kC wr.heap.size 4 (.float .f32 0)
   have f2:∀o,w2.frozen? ⟨wr.heap.size,o,none⟩=false:=r2.thaw (fun o=>by go_simp) (by simp) (by omega)
   have hc2:=r2.c
   have hf2:=r2.f
   go_wp2_with fail
   refine Calls.mono (kF (t2 L) b _ ?_ ?_) ?_
   ·go_simp
   ·go_simp
   rintro e w3 ⟨rfl,r3⟩
   have z3:=r3.size
   simp at z3
   have c30:=r3.kC wr.heap.size 0 (.int .i64 (b2 L))
   have c31:=r3.kC wr.heap.size 1 (.int .i64 0)
   have c32:=r3.kC wr.heap.size 2 (.int .i64 0)
   have c33:=r3.kC wr.heap.size 3 (.float .f32 0)
   have c34:=r3.kC wr.heap.size 4 (.float .f32 0)
   have f3:∀o,w3.frozen? ⟨wr.heap.size,o,none⟩=false:=r3.thaw (fun o=>by go_simp) (by simp;omega) (by omega)
   clear c20 c21 c22 c23 c24 f2 hc2 hf2 hck hfk
   have hvn:Hid (u3.ownBlock≠some wr.heap.size):=by
    intro e;have:=(hvk.out _ e).2;omega
   have o2:Hid (OwnE w.heap.size w2 u3 (eC k (t1 l))):=uJ (World.ownsRow.alloc OK.out _) r2 hb
   have o3:Hid (OwnE w.heap.size w3 u3 (eC k (t1 l))):=uJ (aH o2.out _ _ _ hvn.out) r3 hb
   have R2:=r2.pre (rk.alloc _).g
   have R3:=r3.pre (R2.store hb (k:=wr.heap.size) (by omega) 0 (.int .i64 (b2 L))).g
   have hc3:=r3.c
   have hf3:=r3.f
   go_wp2_with (at_builtin;refine aBs rfl _ _ rfl w.heap.size u3 (eC k (t1 l)) rfl (World.ownsRow.alloc (aH (aH (aH (aH o3.out _ _ _ hvn.out) _ _ _ hvn.out) _ _ _ hvn.out) _ _ _ hvn.out) _) ⟨w3.heap.size,0,none⟩ (pEn L) rfl ?c1 ?c2 ?c3 ?c4)
   case c1=>exact aW _ (pEn L).cells _ _ (by simp)
   case c2=>rw[qU];omega
   case c3=>simp;omega
   case c4=>
    intro v' w4 o4 g4 _
    have R4:=((((R3.store hb (k:=wr.heap.size) (by omega) 1 (.int .i64 (fU (t2 L)).sh)).store hb (k:=wr.heap.size) (by omega) 2 (.int .i64 (fU (t2 L)).nu)).store hb (k:=wr.heap.size) (by omega) 3 (.float .f32 (fU (t2 L)).pl)).store hb (k:=wr.heap.size) (by omega) 4 (.float .f32 (fU (t2 L)).sp)).alloc _ |>.app g4 (fun j hj=>(hvk.out j hj).1) hb
    go_wp2
    go_roundw
    case rel=>exact ⟨k+1,by omega,by go_num,by show Rd b w w4 (tEn (lI k (t1 l)));rw[HL.out];exact R4,by show OwnE _ _ _ (eC k (t1 l)++[pEn (lI k (t1 l))]);rw[HL.out];exact o4⟩
    case measure=>simp[intOf];omega
  ·have hkn:k=n:=by omega
   go_wp2
   go_ret
   exact ⟨_,rfl,hkn ▸ rk,hkn ▸ ok⟩
def rv (k s:Int)(i:It)(m:Mk)(vi vo:Value):Value:=
 .agg #[.int .i64 k,.int .i64 s,.int .i64 i.sh,.int .i64 i.nu,.float .f32 i.pl,.float .f32 i.sp,.int .i64 m.g,.int .i64 m.m,.int .i64 m.s,.int .i64 m.a,.int .i64 m.n,vi,vo]
def bT:It:=⟨0,0,0,0⟩
def aZ:Mk:=⟨0,0,0,0,0⟩
def eP (K:Int)(l:List UInt8):Rc:=
 if K=1 then ⟨1,0,fU l,aZ,[],[]⟩
 else if K=2 then ⟨2,0,⟨b1 l,b2 (t1 l),0,0⟩,aZ,[],[]⟩
 else if K=4∨K=7 then ⟨K,b2 l,fU (t2 l),aZ,[],[]⟩
 else if K=5∨K=8 then ⟨K,b2 l,bT,aZ,[],[]⟩
 else if K=6 then
  let l2:=tI l
  let n:=(b1 l2).toNat
  let l3:=iJ n (t1 l2)
  ⟨6,0,bT,mF l,fC n (t1 l2),eC (b1 l3).toNat (t1 l3)⟩
 else ⟨K,0,bT,aZ,[],[]⟩
theorem dD {B:Nat}{e:TypeId}{size:Nat}{v:Value}{n:Nat}{xs:List Value}{w:World}(h:w.ownsRow B e size v n xs):∃a n' c,v=.slice a n' c:=by
 rcases h.2 with ⟨rfl,_⟩ | ⟨g,cap,cur,rfl,_⟩
 ·exact ⟨_,_,_,rfl⟩
 ·exact ⟨_,_,_,rfl⟩
theorem Hid.mk' {p:Prop}(h:p):Hid p:=h
def iK (b:Nat)(w:World)(p:Rc)(e:Ending)(w':World):Prop:=
 ∃vi vo,e=.returned (rv p.kind p.seq p.it p.mks vi vo)/\w.grownBy w' (some b)/\OwnI w.heap.size w' vi p.items/\OwnE w.heap.size w' vo p.outs/\(∀j,vi.ownBlock=some j->vo.ownBlock≠some j)
def eE (n:Int):Bool:=decide (0<=n)&&decide (n<=65535)
def aS (x:Nat):Bool:=(FloatKind.f32.format.order 3296329728 x==some Ordering.lt || FloatKind.f32.format.order 3296329728 x==some Ordering.eq)&&(FloatKind.f32.format.order x 1148846080==some Ordering.lt || FloatKind.f32.format.order x 1148846080==some Ordering.eq)
def pA (s n:Int):Bool:=(s==0 || s==1)&&decide (1<=n)&&decide (n<=65535)
def eF (i:It):Bool:=pA i.sh i.nu&&aS i.pl&&aS i.sp
def zU (i:It):Bool:=i.pl==0&&i.sp==0
def jM (i:It):Bool:=(i.sh==0&&i.nu==0)&&zU i
theorem iL (n:Int)(w:World):
  Calls prog 207 #[.int .i64 n] w fun e w'=>e=.returned (.bool (eE n))/\w'=w:=by
 go_enter func207,ntmps207
 go_wp2
 all_goals (go_ret;refine ⟨aM ?_,rfl⟩)
 all_goals (first | (simp[eE, *];done) | (simp[eE];omega))
theorem aEk (x:Nat)(w:World):
  Calls prog 173 #[.float .f32 x] w fun e w'=>e=.returned (.bool (aS x))/\w'=w:=by
 go_enter func173,ntmps173
 go_wp2
 ·go_ret;exact ⟨aM rfl,rfl⟩
 ·rename_i hn
  go_ret
  refine ⟨aM ?_,rfl⟩
  have h1:¬FloatKind.f32.format.order 3296329728 x=some Ordering.lt:=fun e=>hn (.inl e)
  have h2:¬FloatKind.f32.format.order 3296329728 x=some Ordering.eq:=fun e=>hn (.inr e)
  simp[aS,h1,h2]
theorem tJ (s n:Int)(w:World):
  Calls prog 204 #[.agg #[.int .i64 s,.int .i64 n]] w fun e w'=>e=.returned (.bool (pA s n))/\w.grownBy w' none:=by
 go_enter func204,ntmps204
 go_wp2
 all_goals (go_ret;refine ⟨aM ?_,World.grownBy_alloc _ _ _⟩)
 all_goals (first | (simp[pA, *];done) | (have hx:=‹¬s=0›;have hy:=‹¬s=1›;simp[pA,hx,hy];done) | (have hx:=‹n<1›;simp[pA, *];omega))
theorem nX (n:Nat):((n:Int)==0)=(n==0):=by rw[Bool.eq_iff_iff];simp
theorem tK (i:It)(w:World):
  Calls prog 205 #[.agg #[.int .i64 i.sh,.int .i64 i.nu,.float .f32 i.pl,.float .f32 i.sp]] w fun e w'=>e=.returned (.bool (zU i))/\w.grownBy w' none:=by
 have hb:=pQ
 go_enter func205,ntmps205
 go_wp2_with fail
 all_goals (go_ret;refine ⟨aM ?_,World.grownBy_alloc _ _ _⟩)
 all_goals (first | (simp[zU, *];done) | (simp[zU, *];exact nX _))
theorem iR (x y:Nat)(w:World):
  Calls prog 146 #[.float .f32 x,.float .f32 y] w fun e w'=>e=.returned (.bool (aS x&&aS y))/\w'=w:=by
 go_enter func146,ntmps146
 go_wp2_with (first | (go_at_call 173;refine (aEk _ _).mono ?_;rintro e w' ⟨rfl,rfl⟩))
 all_goals (go_ret;refine ⟨aM ?_,rfl⟩)
 all_goals (simp[*])
theorem iS (i:It)(w:World):
  Calls prog 202 #[.agg #[.int .i64 i.sh,.int .i64 i.nu,.float .f32 i.pl,.float .f32 i.sp]] w fun e w'=>e=.returned (.bool (eF i))/\w.grownBy w' none:=by
 go_enter func202,ntmps202
 go_wp2_with fail
 refine (tJ i.sh i.nu _).mono ?_
 rintro e w1 ⟨rfl,g1⟩
 have c1:=gC g1 w.heap.size 2 (.float .f32 i.pl)
 have c2:=gC g1 w.heap.size 3 (.float .f32 i.sp)
 have G:=(World.grownBy_alloc w (.cells #[.int .i64 i.sh,.int .i64 i.nu,.float .f32 i.pl,.float .f32 i.sp] 75) none).trans g1
 go_wp2_with (first | (go_at_call 146;refine (iR _ _ _).mono ?_;rintro e w' ⟨rfl,rfl⟩))
 all_goals (go_ret;refine ⟨aM ?_,G⟩)
 all_goals (first | (simp[eF, *];done) | (simp only[eF, *,Bool.true_and,Bool.and_assoc];done))
def zQ (m:Mk):Bool:=eE m.g&&eE m.m&&eE m.s&&eE m.a&&eE m.n
def wR (m:Mk):Bool:=m.g==0&&m.m==0&&m.s==0&&m.a==0&&m.n==0
theorem jO (i:It)(w:World):
  Calls prog 206 #[.agg #[.int .i64 i.sh,.int .i64 i.nu,.float .f32 i.pl,.float .f32 i.sp]] w fun e w'=>e=.returned (.bool (jM i))/\w.grownBy w' none:=by
 obtain ⟨sh,nu,pl,sp⟩:=i
 by_cases h1:sh=0
 ·subst h1
  by_cases h2:nu=0
  ·subst h2
   go_enter func206,ntmps206
   go_wp2_with (go_at_call 205;refine (tK ⟨0,0,pl,sp⟩ _).mono ?_;rintro e w1 ⟨rfl,g1⟩)
   go_ret
   exact ⟨aM (by simp[jM]),(World.grownBy_alloc _ _ _).trans g1⟩
  ·go_enter func206,ntmps206
   go_wp2_with fail
   go_ret
   exact ⟨aM (by simp[jM,h2]),World.grownBy_alloc _ _ _⟩
 ·go_enter func206,ntmps206
  go_wp2_with fail
  go_ret
  exact ⟨aM (by simp[jM,h1]),World.grownBy_alloc _ _ _⟩
theorem uK (m:Mk)(w:World):
  Calls prog 226 #[.agg #[.int .i64 m.g,.int .i64 m.m,.int .i64 m.s,.int .i64 m.a,.int .i64 m.n]] w fun e w'=>e=.returned (.bool (zQ m))/\w.grownBy w' none:=by
 go_enter func226,ntmps226
 go_wp2_with (go_at_call 207;refine (iL _ _).mono ?_;rintro e w1 ⟨rfl,rfl⟩)
 all_goals (go_ret;refine ⟨aM ?_,World.grownBy_alloc _ _ _⟩)
 all_goals (simp[zQ, *])
theorem fL (k s:Int)(i:It)(m:Mk)(ai ao:Option Addr)(ni ci no co:Nat)(w:World):
  Calls prog 203 #[rv k s i m (.slice ai ni ci) (.slice ao no co)] w fun e w'=>e=.returned (.bool (wR m&&(ni==0)&&(no==0)))/\w.grownBy w' none:=by
 unfold rv
 go_enter func203,ntmps203
 go_wp2
 all_goals (go_ret;refine ⟨aM ?_,World.grownBy_alloc _ _ _⟩)
 all_goals (first | (simp[wR, *];done) | (simp[wR, *];exact nX _))
theorem uL (l:List UInt8)(K:Int)(hK:Hid (b1 l=K))(k1:(K==1)=false)(k2:(K==2)=false)(k4:(K==4)=false)(k7:(K==7)=false)(k5:(K==5)=false)(k8:(K==8)=false)(k6:(K==6)=false)(b:Nat)(w:World)(h:w.cell? ⟨b,0,none⟩=some (.string (S l)))(hf:w.frozen? ⟨b,0,none⟩=false):
  Calls prog 161 #[.pointer (some ⟨b,0,none⟩)] w fun e w'=>iK b w ((⟨K,0,bT,aZ,[],[]⟩:Rc)) e w':=by
 have hb:b<w.heap.size:=World.block_lt_of_cell? w _ h
 have hsf:=aK
 go_enter func161,ntmps161
 go_wp2_with fail
 refine Calls.mono (cB l b _ ?_ ?_) ?_
 ·go_simp
 ·go_simp
 rintro e w1 ⟨rfl,r1⟩
 rw[hK.out]
 have ca1_0:=r1.kC w.heap.size 0 (.int .i64 0)
 have ca1_1:=r1.kC w.heap.size 1 (.int .i64 0)
 have ca1_2:=r1.kC w.heap.size 2 (.int .i64 0)
 have ca1_3:=r1.kC w.heap.size 3 (.int .i64 0)
 have ca1_4:=r1.kC w.heap.size 4 (.float .f32 0)
 have ca1_5:=r1.kC w.heap.size 5 (.float .f32 0)
 have ca1_6:=r1.kC w.heap.size 6 (.int .i64 0)
 have ca1_7:=r1.kC w.heap.size 7 (.int .i64 0)
 have ca1_8:=r1.kC w.heap.size 8 (.int .i64 0)
 have ca1_9:=r1.kC w.heap.size 9 (.int .i64 0)
 have ca1_10:=r1.kC w.heap.size 10 (.int .i64 0)
 have ca1_11:=r1.kC w.heap.size 11 (.slice none 0 0)
 have ca1_12:=r1.kC w.heap.size 12 (.slice none 0 0)
 have fa1:∀o,w1.frozen? ⟨w.heap.size,o,none⟩=false:=r1.thaw (fun o=>by go_simp) (by simp;try omega) (by omega)
 have z1:=r1.size
 simp at z1
 have hc1:=r1.c
 have hf1:=r1.f
 have R1:=r1.pre (World.grownBy_alloc _ _ _)
 have y1:b<w1.heap.size:=by omega
 have x1:w.heap.size<w1.heap.size:=by omega
 have y2:b≠w1.heap.size:=by omega
 have x2:w.heap.size≠w1.heap.size:=by omega
 go_wp2
 refine bodyPost_ret (v:=rv ((⟨K,0,bT,aZ,[],[]⟩:Rc)).kind ((⟨K,0,bT,aZ,[],[]⟩:Rc)).seq ((⟨K,0,bT,aZ,[],[]⟩:Rc)).it ((⟨K,0,bT,aZ,[],[]⟩:Rc)).mks (.slice none 0 0) (.slice none 0 0)) (by simp[results,results161,go_sem,rv,bT,aZ, *]) rfl ⟨_,_,rfl,?_,?_,?_,by simp[Value.ownBlock]⟩
 ·exact ((((((((((((((R1.store hb (k:=w.heap.size) (by omega) _ _).store hb (k:=w.heap.size) (by omega) _ _).store hb (k:=w.heap.size) (by omega) _ _).store hb (k:=w.heap.size) (by omega) _ _).store hb (k:=w.heap.size) (by omega) _ _).store hb (k:=w.heap.size) (by omega) _ _).store hb (k:=w.heap.size) (by omega) _ _).store hb (k:=w.heap.size) (by omega) _ _).store hb (k:=w.heap.size) (by omega) _ _).store hb (k:=w.heap.size) (by omega) _ _).store hb (k:=w.heap.size) (by omega) _ _).store hb (k:=w.heap.size) (by omega) _ _).store hb (k:=w.heap.size) (by omega) _ _).alloc _).g
 ·exact OwnI.nil _ _
 ·exact OwnE.nil _ _
theorem aEl (l:List UInt8)(hK:Hid (b1 l=1))(b:Nat)(w:World)(h:w.cell? ⟨b,0,none⟩=some (.string (S l)))(hf:w.frozen? ⟨b,0,none⟩=false):
  Calls prog 161 #[.pointer (some ⟨b,0,none⟩)] w fun e w'=>iK b w (eP 1 (t1 l)) e w':=by
 have hb:b<w.heap.size:=World.block_lt_of_cell? w _ h
 have hsf:=aK
 go_enter func161,ntmps161
 go_wp2_with fail
 refine Calls.mono (cB l b _ ?_ ?_) ?_
 ·go_simp
 ·go_simp
 rintro e w1 ⟨rfl,r1⟩
 rw[hK.out]
 have ca1_0:=r1.kC w.heap.size 0 (.int .i64 0)
 have ca1_1:=r1.kC w.heap.size 1 (.int .i64 0)
 have ca1_2:=r1.kC w.heap.size 2 (.int .i64 0)
 have ca1_3:=r1.kC w.heap.size 3 (.int .i64 0)
 have ca1_4:=r1.kC w.heap.size 4 (.float .f32 0)
 have ca1_5:=r1.kC w.heap.size 5 (.float .f32 0)
 have ca1_6:=r1.kC w.heap.size 6 (.int .i64 0)
 have ca1_7:=r1.kC w.heap.size 7 (.int .i64 0)
 have ca1_8:=r1.kC w.heap.size 8 (.int .i64 0)
 have ca1_9:=r1.kC w.heap.size 9 (.int .i64 0)
 have ca1_10:=r1.kC w.heap.size 10 (.int .i64 0)
 have ca1_11:=r1.kC w.heap.size 11 (.slice none 0 0)
 have ca1_12:=r1.kC w.heap.size 12 (.slice none 0 0)
 have fa1:∀o,w1.frozen? ⟨w.heap.size,o,none⟩=false:=r1.thaw (fun o=>by go_simp) (by simp;try omega) (by omega)
 have z1:=r1.size
 simp at z1
 have hc1:=r1.c
 have hf1:=r1.f
 have R1:=r1.pre (World.grownBy_alloc _ _ _)
 have y1:b<w1.heap.size:=by omega
 have x1:w.heap.size<w1.heap.size:=by omega
 have y2:b≠w1.heap.size:=by omega
 have x2:w.heap.size≠w1.heap.size:=by omega
 go_wp2_with fail
 refine Calls.mono (kF (t1 l) b _ ?_ ?_) ?_
 ·go_simp
 ·go_simp
 rintro e w2 ⟨rfl,r2⟩
 have ca2_0:=r2.kC w.heap.size 0 (.int .i64 0)
 have ca2_1:=r2.kC w.heap.size 1 (.int .i64 0)
 have ca2_2:=r2.kC w.heap.size 2 (.int .i64 0)
 have ca2_3:=r2.kC w.heap.size 3 (.int .i64 0)
 have ca2_4:=r2.kC w.heap.size 4 (.float .f32 0)
 have ca2_5:=r2.kC w.heap.size 5 (.float .f32 0)
 have ca2_6:=r2.kC w.heap.size 6 (.int .i64 0)
 have ca2_7:=r2.kC w.heap.size 7 (.int .i64 0)
 have ca2_8:=r2.kC w.heap.size 8 (.int .i64 0)
 have ca2_9:=r2.kC w.heap.size 9 (.int .i64 0)
 have ca2_10:=r2.kC w.heap.size 10 (.int .i64 0)
 have ca2_11:=r2.kC w.heap.size 11 (.slice none 0 0)
 have ca2_12:=r2.kC w.heap.size 12 (.slice none 0 0)
 have fa2:∀o,w2.frozen? ⟨w.heap.size,o,none⟩=false:=r2.thaw (fun o=>by go_simp) (by simp;try omega) (by omega)
 have cb2_0:=r2.kC w1.heap.size 0 (.int .i64 (1))
 have cb2_1:=r2.kC w1.heap.size 1 (.int .i64 0)
 have cb2_2:=r2.kC w1.heap.size 2 (.int .i64 0)
 have cb2_3:=r2.kC w1.heap.size 3 (.int .i64 0)
 have cb2_4:=r2.kC w1.heap.size 4 (.float .f32 0)
 have cb2_5:=r2.kC w1.heap.size 5 (.float .f32 0)
 have cb2_6:=r2.kC w1.heap.size 6 (.int .i64 0)
 have cb2_7:=r2.kC w1.heap.size 7 (.int .i64 0)
 have cb2_8:=r2.kC w1.heap.size 8 (.int .i64 0)
 have cb2_9:=r2.kC w1.heap.size 9 (.int .i64 0)
 have cb2_10:=r2.kC w1.heap.size 10 (.int .i64 0)
 have cb2_11:=r2.kC w1.heap.size 11 (.slice none 0 0)
 have cb2_12:=r2.kC w1.heap.size 12 (.slice none 0 0)
 have fb2:∀o,w2.frozen? ⟨w1.heap.size,o,none⟩=false:=r2.thaw (fun o=>by go_simp) (by simp;try omega) (by omega)
 have z2:=r2.size
 simp at z2
 have hc2:=r2.c
 have hf2:=r2.f
 have R2:=r2.pre (R1.alloc _).g
 clear ca1_0 ca1_1 ca1_2 ca1_3 ca1_4 ca1_5 ca1_6 ca1_7 ca1_8 ca1_9 ca1_10 ca1_11 ca1_12 fa1 hc1 hf1
 go_wp2
 refine bodyPost_ret (v:=rv (eP 1 (t1 l)).kind (eP 1 (t1 l)).seq (eP 1 (t1 l)).it (eP 1 (t1 l)).mks (.slice none 0 0) (.slice none 0 0)) (by simp[results,results161,go_sem,rv,eP,aZ, *]) rfl ⟨_,_,rfl,?_,?_,?_,by simp[Value.ownBlock]⟩
 ·exact (((((((((((((((((R2.store hb (k:=w1.heap.size) (by omega) 2 (.int .i64 (fU (t1 l)).sh)).store hb (k:=w1.heap.size) (by omega) 3 (.int .i64 (fU (t1 l)).nu)).store hb (k:=w1.heap.size) (by omega) 4 (.float .f32 (fU (t1 l)).pl)).store hb (k:=w1.heap.size) (by omega) 5 (.float .f32 (fU (t1 l)).sp)).store hb (k:=w.heap.size) (by omega) _ _).store hb (k:=w.heap.size) (by omega) _ _).store hb (k:=w.heap.size) (by omega) _ _).store hb (k:=w.heap.size) (by omega) _ _).store hb (k:=w.heap.size) (by omega) _ _).store hb (k:=w.heap.size) (by omega) _ _).store hb (k:=w.heap.size) (by omega) _ _).store hb (k:=w.heap.size) (by omega) _ _).store hb (k:=w.heap.size) (by omega) _ _).store hb (k:=w.heap.size) (by omega) _ _).store hb (k:=w.heap.size) (by omega) _ _).store hb (k:=w.heap.size) (by omega) _ _).store hb (k:=w.heap.size) (by omega) _ _).g
 ·simp only[eP];simp;exact OwnI.nil _ _
 ·simp only[eP];simp;exact OwnE.nil _ _
theorem aEm (l:List UInt8)(hK:Hid (b1 l=2))(b:Nat)(w:World)(h:w.cell? ⟨b,0,none⟩=some (.string (S l)))(hf:w.frozen? ⟨b,0,none⟩=false):
  Calls prog 161 #[.pointer (some ⟨b,0,none⟩)] w fun e w'=>iK b w (eP 2 (t1 l)) e w':=by
 have hb:b<w.heap.size:=World.block_lt_of_cell? w _ h
 have hsf:=aK
 go_enter func161,ntmps161
 go_wp2_with fail
 refine Calls.mono (cB l b _ ?_ ?_) ?_
 ·go_simp
 ·go_simp
 rintro e w1 ⟨rfl,r1⟩
 rw[hK.out]
 have ca1_0:=r1.kC w.heap.size 0 (.int .i64 0)
 have ca1_1:=r1.kC w.heap.size 1 (.int .i64 0)
 have ca1_2:=r1.kC w.heap.size 2 (.int .i64 0)
 have ca1_3:=r1.kC w.heap.size 3 (.int .i64 0)
 have ca1_4:=r1.kC w.heap.size 4 (.float .f32 0)
 have ca1_5:=r1.kC w.heap.size 5 (.float .f32 0)
 have ca1_6:=r1.kC w.heap.size 6 (.int .i64 0)
 have ca1_7:=r1.kC w.heap.size 7 (.int .i64 0)
 have ca1_8:=r1.kC w.heap.size 8 (.int .i64 0)
 have ca1_9:=r1.kC w.heap.size 9 (.int .i64 0)
 have ca1_10:=r1.kC w.heap.size 10 (.int .i64 0)
 have ca1_11:=r1.kC w.heap.size 11 (.slice none 0 0)
 have ca1_12:=r1.kC w.heap.size 12 (.slice none 0 0)
 have fa1:∀o,w1.frozen? ⟨w.heap.size,o,none⟩=false:=r1.thaw (fun o=>by go_simp) (by simp;try omega) (by omega)
 have z1:=r1.size
 simp at z1
 have hc1:=r1.c
 have hf1:=r1.f
 have R1:=r1.pre (World.grownBy_alloc _ _ _)
 have y1:b<w1.heap.size:=by omega
 have x1:w.heap.size<w1.heap.size:=by omega
 have y2:b≠w1.heap.size:=by omega
 have x2:w.heap.size≠w1.heap.size:=by omega
 go_wp2_with fail
 refine Calls.mono (aEj (t1 l) b _ ?_ ?_) ?_
 ·go_simp
 ·go_simp
 rintro e w2 ⟨rfl,r2⟩
 have ca2_0:=r2.kC w.heap.size 0 (.int .i64 0)
 have ca2_1:=r2.kC w.heap.size 1 (.int .i64 0)
 have ca2_2:=r2.kC w.heap.size 2 (.int .i64 0)
 have ca2_3:=r2.kC w.heap.size 3 (.int .i64 0)
 have ca2_4:=r2.kC w.heap.size 4 (.float .f32 0)
 have ca2_5:=r2.kC w.heap.size 5 (.float .f32 0)
 have ca2_6:=r2.kC w.heap.size 6 (.int .i64 0)
 have ca2_7:=r2.kC w.heap.size 7 (.int .i64 0)
 have ca2_8:=r2.kC w.heap.size 8 (.int .i64 0)
 have ca2_9:=r2.kC w.heap.size 9 (.int .i64 0)
 have ca2_10:=r2.kC w.heap.size 10 (.int .i64 0)
 have ca2_11:=r2.kC w.heap.size 11 (.slice none 0 0)
 have ca2_12:=r2.kC w.heap.size 12 (.slice none 0 0)
 have fa2:∀o,w2.frozen? ⟨w.heap.size,o,none⟩=false:=r2.thaw (fun o=>by go_simp) (by simp;try omega) (by omega)
 have cb2_0:=r2.kC w1.heap.size 0 (.int .i64 (2))
 have cb2_1:=r2.kC w1.heap.size 1 (.int .i64 0)
 have cb2_2:=r2.kC w1.heap.size 2 (.int .i64 0)
 have cb2_3:=r2.kC w1.heap.size 3 (.int .i64 0)
 have cb2_4:=r2.kC w1.heap.size 4 (.float .f32 0)
 have cb2_5:=r2.kC w1.heap.size 5 (.float .f32 0)
 have cb2_6:=r2.kC w1.heap.size 6 (.int .i64 0)
 have cb2_7:=r2.kC w1.heap.size 7 (.int .i64 0)
 have cb2_8:=r2.kC w1.heap.size 8 (.int .i64 0)
 have cb2_9:=r2.kC w1.heap.size 9 (.int .i64 0)
 have cb2_10:=r2.kC w1.heap.size 10 (.int .i64 0)
 have cb2_11:=r2.kC w1.heap.size 11 (.slice none 0 0)
 have cb2_12:=r2.kC w1.heap.size 12 (.slice none 0 0)
 have fb2:∀o,w2.frozen? ⟨w1.heap.size,o,none⟩=false:=r2.thaw (fun o=>by go_simp) (by simp;try omega) (by omega)
 have z2:=r2.size
 simp at z2
 have hc2:=r2.c
 have hf2:=r2.f
 have R2:=r2.pre (R1.alloc _).g
 clear ca1_0 ca1_1 ca1_2 ca1_3 ca1_4 ca1_5 ca1_6 ca1_7 ca1_8 ca1_9 ca1_10 ca1_11 ca1_12 fa1 hc1 hf1
 go_wp2
 refine bodyPost_ret (v:=rv (eP 2 (t1 l)).kind (eP 2 (t1 l)).seq (eP 2 (t1 l)).it (eP 2 (t1 l)).mks (.slice none 0 0) (.slice none 0 0)) (by simp[results,results161,go_sem,rv,eP,aZ, *]) rfl ⟨_,_,rfl,?_,?_,?_,by simp[Value.ownBlock]⟩
 ·exact (((((((((((((((R2.store hb (k:=w1.heap.size) (by omega) 2 (.int .i64 (b1 (t1 l)))).store hb (k:=w1.heap.size) (by omega) 3 (.int .i64 (b2 (t1 (t1 l))))).store hb (k:=w.heap.size) (by omega) _ _).store hb (k:=w.heap.size) (by omega) _ _).store hb (k:=w.heap.size) (by omega) _ _).store hb (k:=w.heap.size) (by omega) _ _).store hb (k:=w.heap.size) (by omega) _ _).store hb (k:=w.heap.size) (by omega) _ _).store hb (k:=w.heap.size) (by omega) _ _).store hb (k:=w.heap.size) (by omega) _ _).store hb (k:=w.heap.size) (by omega) _ _).store hb (k:=w.heap.size) (by omega) _ _).store hb (k:=w.heap.size) (by omega) _ _).store hb (k:=w.heap.size) (by omega) _ _).store hb (k:=w.heap.size) (by omega) _ _).g
 ·simp only[eP];simp;exact OwnI.nil _ _
 ·simp only[eP];simp;exact OwnE.nil _ _
theorem aEn (l:List UInt8)(hK:Hid (b1 l=4))(b:Nat)(w:World)(h:w.cell? ⟨b,0,none⟩=some (.string (S l)))(hf:w.frozen? ⟨b,0,none⟩=false):
  Calls prog 161 #[.pointer (some ⟨b,0,none⟩)] w fun e w'=>iK b w (eP 4 (t1 l)) e w':=by
 have hb:b<w.heap.size:=World.block_lt_of_cell? w _ h
 have hsf:=aK
 go_enter func161,ntmps161
 go_wp2_with fail
 refine Calls.mono (cB l b _ ?_ ?_) ?_
 ·go_simp
 ·go_simp
 rintro e w1 ⟨rfl,r1⟩
 rw[hK.out]
 have ca1_0:=r1.kC w.heap.size 0 (.int .i64 0)
 have ca1_1:=r1.kC w.heap.size 1 (.int .i64 0)
 have ca1_2:=r1.kC w.heap.size 2 (.int .i64 0)
 have ca1_3:=r1.kC w.heap.size 3 (.int .i64 0)
 have ca1_4:=r1.kC w.heap.size 4 (.float .f32 0)
 have ca1_5:=r1.kC w.heap.size 5 (.float .f32 0)
 have ca1_6:=r1.kC w.heap.size 6 (.int .i64 0)
 have ca1_7:=r1.kC w.heap.size 7 (.int .i64 0)
 have ca1_8:=r1.kC w.heap.size 8 (.int .i64 0)
 have ca1_9:=r1.kC w.heap.size 9 (.int .i64 0)
 have ca1_10:=r1.kC w.heap.size 10 (.int .i64 0)
 have ca1_11:=r1.kC w.heap.size 11 (.slice none 0 0)
 have ca1_12:=r1.kC w.heap.size 12 (.slice none 0 0)
 have fa1:∀o,w1.frozen? ⟨w.heap.size,o,none⟩=false:=r1.thaw (fun o=>by go_simp) (by simp;try omega) (by omega)
 have z1:=r1.size
 simp at z1
 have hc1:=r1.c
 have hf1:=r1.f
 have R1:=r1.pre (World.grownBy_alloc _ _ _)
 have y1:b<w1.heap.size:=by omega
 have x1:w.heap.size<w1.heap.size:=by omega
 have y2:b≠w1.heap.size:=by omega
 have x2:w.heap.size≠w1.heap.size:=by omega
 go_wp2_with fail
 refine Calls.mono (bZ (t1 l) b _ ?_ ?_) ?_
 ·go_simp
 ·go_simp
 rintro e w2 ⟨rfl,r2⟩
 have ca2_0:=r2.kC w.heap.size 0 (.int .i64 0)
 have ca2_1:=r2.kC w.heap.size 1 (.int .i64 0)
 have ca2_2:=r2.kC w.heap.size 2 (.int .i64 0)
 have ca2_3:=r2.kC w.heap.size 3 (.int .i64 0)
 have ca2_4:=r2.kC w.heap.size 4 (.float .f32 0)
 have ca2_5:=r2.kC w.heap.size 5 (.float .f32 0)
 have ca2_6:=r2.kC w.heap.size 6 (.int .i64 0)
 have ca2_7:=r2.kC w.heap.size 7 (.int .i64 0)
 have ca2_8:=r2.kC w.heap.size 8 (.int .i64 0)
 have ca2_9:=r2.kC w.heap.size 9 (.int .i64 0)
 have ca2_10:=r2.kC w.heap.size 10 (.int .i64 0)
 have ca2_11:=r2.kC w.heap.size 11 (.slice none 0 0)
 have ca2_12:=r2.kC w.heap.size 12 (.slice none 0 0)
 have fa2:∀o,w2.frozen? ⟨w.heap.size,o,none⟩=false:=r2.thaw (fun o=>by go_simp) (by simp;try omega) (by omega)
 have cb2_0:=r2.kC w1.heap.size 0 (.int .i64 (4))
 have cb2_1:=r2.kC w1.heap.size 1 (.int .i64 0)
 have cb2_2:=r2.kC w1.heap.size 2 (.int .i64 0)
 have cb2_3:=r2.kC w1.heap.size 3 (.int .i64 0)
 have cb2_4:=r2.kC w1.heap.size 4 (.float .f32 0)
 have cb2_5:=r2.kC w1.heap.size 5 (.float .f32 0)
 have cb2_6:=r2.kC w1.heap.size 6 (.int .i64 0)
 have cb2_7:=r2.kC w1.heap.size 7 (.int .i64 0)
 have cb2_8:=r2.kC w1.heap.size 8 (.int .i64 0)
 have cb2_9:=r2.kC w1.heap.size 9 (.int .i64 0)
 have cb2_10:=r2.kC w1.heap.size 10 (.int .i64 0)
 have cb2_11:=r2.kC w1.heap.size 11 (.slice none 0 0)
 have cb2_12:=r2.kC w1.heap.size 12 (.slice none 0 0)
 have fb2:∀o,w2.frozen? ⟨w1.heap.size,o,none⟩=false:=r2.thaw (fun o=>by go_simp) (by simp;try omega) (by omega)
 have z2:=r2.size
 simp at z2
 have hc2:=r2.c
 have hf2:=r2.f
 have R2:=r2.pre (R1.alloc _).g
 clear ca1_0 ca1_1 ca1_2 ca1_3 ca1_4 ca1_5 ca1_6 ca1_7 ca1_8 ca1_9 ca1_10 ca1_11 ca1_12 fa1 hc1 hf1
 go_wp2_with fail
 refine Calls.mono (kF (t2 (t1 l)) b _ ?_ ?_) ?_
 ·go_simp
 ·go_simp
 rintro e w3 ⟨rfl,r3⟩
 have ca3_0:=r3.kC w.heap.size 0 (.int .i64 0)
 have ca3_1:=r3.kC w.heap.size 1 (.int .i64 0)
 have ca3_2:=r3.kC w.heap.size 2 (.int .i64 0)
 have ca3_3:=r3.kC w.heap.size 3 (.int .i64 0)
 have ca3_4:=r3.kC w.heap.size 4 (.float .f32 0)
 have ca3_5:=r3.kC w.heap.size 5 (.float .f32 0)
 have ca3_6:=r3.kC w.heap.size 6 (.int .i64 0)
 have ca3_7:=r3.kC w.heap.size 7 (.int .i64 0)
 have ca3_8:=r3.kC w.heap.size 8 (.int .i64 0)
 have ca3_9:=r3.kC w.heap.size 9 (.int .i64 0)
 have ca3_10:=r3.kC w.heap.size 10 (.int .i64 0)
 have ca3_11:=r3.kC w.heap.size 11 (.slice none 0 0)
 have ca3_12:=r3.kC w.heap.size 12 (.slice none 0 0)
 have fa3:∀o,w3.frozen? ⟨w.heap.size,o,none⟩=false:=r3.thaw (fun o=>by go_simp) (by simp;try omega) (by omega)
 have cb3_0:=r3.kC w1.heap.size 0 (.int .i64 (4))
 have cb3_1:=r3.kC w1.heap.size 1 (.int .i64 (b2 (t1 l)))
 have cb3_2:=r3.kC w1.heap.size 2 (.int .i64 0)
 have cb3_3:=r3.kC w1.heap.size 3 (.int .i64 0)
 have cb3_4:=r3.kC w1.heap.size 4 (.float .f32 0)
 have cb3_5:=r3.kC w1.heap.size 5 (.float .f32 0)
 have cb3_6:=r3.kC w1.heap.size 6 (.int .i64 0)
 have cb3_7:=r3.kC w1.heap.size 7 (.int .i64 0)
 have cb3_8:=r3.kC w1.heap.size 8 (.int .i64 0)
 have cb3_9:=r3.kC w1.heap.size 9 (.int .i64 0)
 have cb3_10:=r3.kC w1.heap.size 10 (.int .i64 0)
 have cb3_11:=r3.kC w1.heap.size 11 (.slice none 0 0)
 have cb3_12:=r3.kC w1.heap.size 12 (.slice none 0 0)
 have fb3:∀o,w3.frozen? ⟨w1.heap.size,o,none⟩=false:=r3.thaw (fun o=>by go_simp) (by simp;try omega) (by omega)
 have z3:=r3.size
 simp at z3
 have hc3:=r3.c
 have hf3:=r3.f
 have R3:=r3.pre (R2.store hb (k:=w1.heap.size) (by omega) 1 (.int .i64 (b2 (t1 l)))).g
 clear ca2_0 ca2_1 ca2_2 ca2_3 ca2_4 ca2_5 ca2_6 ca2_7 ca2_8 ca2_9 ca2_10 ca2_11 ca2_12 fa2 cb2_0 cb2_1 cb2_2 cb2_3 cb2_4 cb2_5 cb2_6 cb2_7 cb2_8 cb2_9 cb2_10 cb2_11 cb2_12 fb2 hc2 hf2
 go_wp2
 refine bodyPost_ret (v:=rv (eP 4 (t1 l)).kind (eP 4 (t1 l)).seq (eP 4 (t1 l)).it (eP 4 (t1 l)).mks (.slice none 0 0) (.slice none 0 0)) (by simp[results,results161,go_sem,rv,eP,aZ, *]) rfl ⟨_,_,rfl,?_,?_,?_,by simp[Value.ownBlock]⟩
 ·exact (((((((((((((((((R3.store hb (k:=w1.heap.size) (by omega) 2 (.int .i64 (fU (t2 (t1 l))).sh)).store hb (k:=w1.heap.size) (by omega) 3 (.int .i64 (fU (t2 (t1 l))).nu)).store hb (k:=w1.heap.size) (by omega) 4 (.float .f32 (fU (t2 (t1 l))).pl)).store hb (k:=w1.heap.size) (by omega) 5 (.float .f32 (fU (t2 (t1 l))).sp)).store hb (k:=w.heap.size) (by omega) _ _).store hb (k:=w.heap.size) (by omega) _ _).store hb (k:=w.heap.size) (by omega) _ _).store hb (k:=w.heap.size) (by omega) _ _).store hb (k:=w.heap.size) (by omega) _ _).store hb (k:=w.heap.size) (by omega) _ _).store hb (k:=w.heap.size) (by omega) _ _).store hb (k:=w.heap.size) (by omega) _ _).store hb (k:=w.heap.size) (by omega) _ _).store hb (k:=w.heap.size) (by omega) _ _).store hb (k:=w.heap.size) (by omega) _ _).store hb (k:=w.heap.size) (by omega) _ _).store hb (k:=w.heap.size) (by omega) _ _).g
 ·simp only[eP];simp;exact OwnI.nil _ _
 ·simp only[eP];simp;exact OwnE.nil _ _
theorem aEo (l:List UInt8)(hK:Hid (b1 l=5))(b:Nat)(w:World)(h:w.cell? ⟨b,0,none⟩=some (.string (S l)))(hf:w.frozen? ⟨b,0,none⟩=false):
  Calls prog 161 #[.pointer (some ⟨b,0,none⟩)] w fun e w'=>iK b w (eP 5 (t1 l)) e w':=by
 have hb:b<w.heap.size:=World.block_lt_of_cell? w _ h
 have hsf:=aK
 go_enter func161,ntmps161
 go_wp2_with fail
 refine Calls.mono (cB l b _ ?_ ?_) ?_
 ·go_simp
 ·go_simp
 rintro e w1 ⟨rfl,r1⟩
 rw[hK.out]
 have ca1_0:=r1.kC w.heap.size 0 (.int .i64 0)
 have ca1_1:=r1.kC w.heap.size 1 (.int .i64 0)
 have ca1_2:=r1.kC w.heap.size 2 (.int .i64 0)
 have ca1_3:=r1.kC w.heap.size 3 (.int .i64 0)
 have ca1_4:=r1.kC w.heap.size 4 (.float .f32 0)
 have ca1_5:=r1.kC w.heap.size 5 (.float .f32 0)
 have ca1_6:=r1.kC w.heap.size 6 (.int .i64 0)
 have ca1_7:=r1.kC w.heap.size 7 (.int .i64 0)
 have ca1_8:=r1.kC w.heap.size 8 (.int .i64 0)
 have ca1_9:=r1.kC w.heap.size 9 (.int .i64 0)
 have ca1_10:=r1.kC w.heap.size 10 (.int .i64 0)
 have ca1_11:=r1.kC w.heap.size 11 (.slice none 0 0)
 have ca1_12:=r1.kC w.heap.size 12 (.slice none 0 0)
 have fa1:∀o,w1.frozen? ⟨w.heap.size,o,none⟩=false:=r1.thaw (fun o=>by go_simp) (by simp;try omega) (by omega)
 have z1:=r1.size
 simp at z1
 have hc1:=r1.c
 have hf1:=r1.f
 have R1:=r1.pre (World.grownBy_alloc _ _ _)
 have y1:b<w1.heap.size:=by omega
 have x1:w.heap.size<w1.heap.size:=by omega
 have y2:b≠w1.heap.size:=by omega
 have x2:w.heap.size≠w1.heap.size:=by omega
 go_wp2_with fail
 refine Calls.mono (bZ (t1 l) b _ ?_ ?_) ?_
 ·go_simp
 ·go_simp
 rintro e w2 ⟨rfl,r2⟩
 have ca2_0:=r2.kC w.heap.size 0 (.int .i64 0)
 have ca2_1:=r2.kC w.heap.size 1 (.int .i64 0)
 have ca2_2:=r2.kC w.heap.size 2 (.int .i64 0)
 have ca2_3:=r2.kC w.heap.size 3 (.int .i64 0)
 have ca2_4:=r2.kC w.heap.size 4 (.float .f32 0)
 have ca2_5:=r2.kC w.heap.size 5 (.float .f32 0)
 have ca2_6:=r2.kC w.heap.size 6 (.int .i64 0)
 have ca2_7:=r2.kC w.heap.size 7 (.int .i64 0)
 have ca2_8:=r2.kC w.heap.size 8 (.int .i64 0)
 have ca2_9:=r2.kC w.heap.size 9 (.int .i64 0)
 have ca2_10:=r2.kC w.heap.size 10 (.int .i64 0)
 have ca2_11:=r2.kC w.heap.size 11 (.slice none 0 0)
 have ca2_12:=r2.kC w.heap.size 12 (.slice none 0 0)
 have fa2:∀o,w2.frozen? ⟨w.heap.size,o,none⟩=false:=r2.thaw (fun o=>by go_simp) (by simp;try omega) (by omega)
 have cb2_0:=r2.kC w1.heap.size 0 (.int .i64 (5))
 have cb2_1:=r2.kC w1.heap.size 1 (.int .i64 0)
 have cb2_2:=r2.kC w1.heap.size 2 (.int .i64 0)
 have cb2_3:=r2.kC w1.heap.size 3 (.int .i64 0)
 have cb2_4:=r2.kC w1.heap.size 4 (.float .f32 0)
 have cb2_5:=r2.kC w1.heap.size 5 (.float .f32 0)
 have cb2_6:=r2.kC w1.heap.size 6 (.int .i64 0)
 have cb2_7:=r2.kC w1.heap.size 7 (.int .i64 0)
 have cb2_8:=r2.kC w1.heap.size 8 (.int .i64 0)
 have cb2_9:=r2.kC w1.heap.size 9 (.int .i64 0)
 have cb2_10:=r2.kC w1.heap.size 10 (.int .i64 0)
 have cb2_11:=r2.kC w1.heap.size 11 (.slice none 0 0)
 have cb2_12:=r2.kC w1.heap.size 12 (.slice none 0 0)
 have fb2:∀o,w2.frozen? ⟨w1.heap.size,o,none⟩=false:=r2.thaw (fun o=>by go_simp) (by simp;try omega) (by omega)
 have z2:=r2.size
 simp at z2
 have hc2:=r2.c
 have hf2:=r2.f
 have R2:=r2.pre (R1.alloc _).g
 clear ca1_0 ca1_1 ca1_2 ca1_3 ca1_4 ca1_5 ca1_6 ca1_7 ca1_8 ca1_9 ca1_10 ca1_11 ca1_12 fa1 hc1 hf1
 go_wp2
 refine bodyPost_ret (v:=rv (eP 5 (t1 l)).kind (eP 5 (t1 l)).seq (eP 5 (t1 l)).it (eP 5 (t1 l)).mks (.slice none 0 0) (.slice none 0 0)) (by simp[results,results161,go_sem,rv,eP,bT,aZ, *]) rfl ⟨_,_,rfl,?_,?_,?_,by simp[Value.ownBlock]⟩
 ·exact ((((((((((((((R2.store hb (k:=w1.heap.size) (by omega) 1 (.int .i64 (b2 (t1 l)))).store hb (k:=w.heap.size) (by omega) _ _).store hb (k:=w.heap.size) (by omega) _ _).store hb (k:=w.heap.size) (by omega) _ _).store hb (k:=w.heap.size) (by omega) _ _).store hb (k:=w.heap.size) (by omega) _ _).store hb (k:=w.heap.size) (by omega) _ _).store hb (k:=w.heap.size) (by omega) _ _).store hb (k:=w.heap.size) (by omega) _ _).store hb (k:=w.heap.size) (by omega) _ _).store hb (k:=w.heap.size) (by omega) _ _).store hb (k:=w.heap.size) (by omega) _ _).store hb (k:=w.heap.size) (by omega) _ _).store hb (k:=w.heap.size) (by omega) _ _).g
 ·simp only[eP];simp;exact OwnI.nil _ _
 ·simp only[eP];simp;exact OwnE.nil _ _
theorem jP (w:World)(a:Addr)(u:Value):(w.setCell a u).heap.size=w.heap.size:=by simp[World.setCell]
theorem bP {B B':Nat}{e:TypeId}{size:Nat}{v:Value}{n:Nat}{xs:List Value}{w:World}(h:w.ownsRow B e size v n xs)(hB:B'<=B):w.ownsRow B' e size v n xs:=by
 refine ⟨h.1,?_⟩
 rcases h.2 with hn | ⟨g,cap,cur,hv,hb,r⟩
 ·exact .inl hn
 ·exact .inr ⟨g,cap,cur,hv,by omega,r⟩
theorem aEp (l:List UInt8)(hK:Hid (b1 l=6))(ni no:Nat)(hi:Hid (b1 (tI (t1 l))=(ni:Int)))(ho:Hid (b1 (iJ ni (t1 (tI (t1 l))))=(no:Int)))(b:Nat)(w:World)(h:w.cell? ⟨b,0,none⟩=some (.string (S l)))(hf:w.frozen? ⟨b,0,none⟩=false):
  Calls prog 161 #[.pointer (some ⟨b,0,none⟩)] w fun e w'=>iK b w (eP 6 (t1 l)) e w':=by
 have hb:b<w.heap.size:=World.block_lt_of_cell? w _ h
 have hsf:=aK
 go_enter func161,ntmps161
 go_wp2_with fail
 refine Calls.mono (cB l b _ ?_ ?_) ?_
 ·go_simp
 ·go_simp
 rintro e w1 ⟨rfl,r1⟩
 rw[hK.out]
 have ca1_0:=r1.kC w.heap.size 0 (.int .i64 0)
 have ca1_1:=r1.kC w.heap.size 1 (.int .i64 0)
 have ca1_2:=r1.kC w.heap.size 2 (.int .i64 0)
 have ca1_3:=r1.kC w.heap.size 3 (.int .i64 0)
 have ca1_4:=r1.kC w.heap.size 4 (.float .f32 0)
 have ca1_5:=r1.kC w.heap.size 5 (.float .f32 0)
 have ca1_6:=r1.kC w.heap.size 6 (.int .i64 0)
 have ca1_7:=r1.kC w.heap.size 7 (.int .i64 0)
 have ca1_8:=r1.kC w.heap.size 8 (.int .i64 0)
 have ca1_9:=r1.kC w.heap.size 9 (.int .i64 0)
 have ca1_10:=r1.kC w.heap.size 10 (.int .i64 0)
 have ca1_11:=r1.kC w.heap.size 11 (.slice none 0 0)
 have ca1_12:=r1.kC w.heap.size 12 (.slice none 0 0)
 have fa1:∀o,w1.frozen? ⟨w.heap.size,o,none⟩=false:=r1.thaw (fun o=>by go_simp) (by simp;try omega) (by omega)
 have z1:=r1.size
 simp at z1
 have hc1:=r1.c
 have hf1:=r1.f
 have R1:=r1.pre (World.grownBy_alloc _ _ _)
 have y1:b<w1.heap.size:=by omega
 have x1:w.heap.size<w1.heap.size:=by omega
 have y2:b≠w1.heap.size:=by omega
 have x2:w.heap.size≠w1.heap.size:=by omega
 go_wp2_with fail
 refine Calls.mono (aCq (t1 l) b _ ?_ ?_) ?_
 ·go_simp
 ·go_simp
 rintro e w2 ⟨rfl,r2⟩
 have ca2_0:=r2.kC w.heap.size 0 (.int .i64 0)
 have ca2_1:=r2.kC w.heap.size 1 (.int .i64 0)
 have ca2_2:=r2.kC w.heap.size 2 (.int .i64 0)
 have ca2_3:=r2.kC w.heap.size 3 (.int .i64 0)
 have ca2_4:=r2.kC w.heap.size 4 (.float .f32 0)
 have ca2_5:=r2.kC w.heap.size 5 (.float .f32 0)
 have ca2_6:=r2.kC w.heap.size 6 (.int .i64 0)
 have ca2_7:=r2.kC w.heap.size 7 (.int .i64 0)
 have ca2_8:=r2.kC w.heap.size 8 (.int .i64 0)
 have ca2_9:=r2.kC w.heap.size 9 (.int .i64 0)
 have ca2_10:=r2.kC w.heap.size 10 (.int .i64 0)
 have ca2_11:=r2.kC w.heap.size 11 (.slice none 0 0)
 have ca2_12:=r2.kC w.heap.size 12 (.slice none 0 0)
 have fa2:∀o,w2.frozen? ⟨w.heap.size,o,none⟩=false:=r2.thaw (fun o=>by go_simp) (by simp;try omega) (by omega)
 have cb2_0:=r2.kC w1.heap.size 0 (.int .i64 (6))
 have cb2_1:=r2.kC w1.heap.size 1 (.int .i64 0)
 have cb2_2:=r2.kC w1.heap.size 2 (.int .i64 0)
 have cb2_3:=r2.kC w1.heap.size 3 (.int .i64 0)
 have cb2_4:=r2.kC w1.heap.size 4 (.float .f32 0)
 have cb2_5:=r2.kC w1.heap.size 5 (.float .f32 0)
 have cb2_6:=r2.kC w1.heap.size 6 (.int .i64 0)
 have cb2_7:=r2.kC w1.heap.size 7 (.int .i64 0)
 have cb2_8:=r2.kC w1.heap.size 8 (.int .i64 0)
 have cb2_9:=r2.kC w1.heap.size 9 (.int .i64 0)
 have cb2_10:=r2.kC w1.heap.size 10 (.int .i64 0)
 have cb2_11:=r2.kC w1.heap.size 11 (.slice none 0 0)
 have cb2_12:=r2.kC w1.heap.size 12 (.slice none 0 0)
 have fb2:∀o,w2.frozen? ⟨w1.heap.size,o,none⟩=false:=r2.thaw (fun o=>by go_simp) (by simp;try omega) (by omega)
 have z2:=r2.size
 simp at z2
 have hc2:=r2.c
 have hf2:=r2.f
 have R2:=r2.pre (R1.alloc _).g
 clear ca1_0 ca1_1 ca1_2 ca1_3 ca1_4 ca1_5 ca1_6 ca1_7 ca1_8 ca1_9 ca1_10 ca1_11 ca1_12 fa1 hc1 hf1
 go_wp2_with fail
 refine Calls.mono (aCs (tI (t1 l)) ni hi b _ ?_ ?_) ?_
 ·go_simp
 ·go_simp
 rintro e w3 ⟨v3,rfl,r3,o3⟩
 obtain ⟨a3,n3,q3,rfl⟩:=dD o3
 have O3:=Hid.mk' o3
 clear o3
 have ca3_0:=r3.kC w.heap.size 0 (.int .i64 0)
 have ca3_1:=r3.kC w.heap.size 1 (.int .i64 0)
 have ca3_2:=r3.kC w.heap.size 2 (.int .i64 0)
 have ca3_3:=r3.kC w.heap.size 3 (.int .i64 0)
 have ca3_4:=r3.kC w.heap.size 4 (.float .f32 0)
 have ca3_5:=r3.kC w.heap.size 5 (.float .f32 0)
 have ca3_6:=r3.kC w.heap.size 6 (.int .i64 0)
 have ca3_7:=r3.kC w.heap.size 7 (.int .i64 0)
 have ca3_8:=r3.kC w.heap.size 8 (.int .i64 0)
 have ca3_9:=r3.kC w.heap.size 9 (.int .i64 0)
 have ca3_10:=r3.kC w.heap.size 10 (.int .i64 0)
 have ca3_11:=r3.kC w.heap.size 11 (.slice none 0 0)
 have ca3_12:=r3.kC w.heap.size 12 (.slice none 0 0)
 have fa3:∀o,w3.frozen? ⟨w.heap.size,o,none⟩=false:=r3.thaw (fun o=>by go_simp) (by simp;try omega) (by omega)
 have cb3_0:=r3.kC w1.heap.size 0 (.int .i64 (6))
 have cb3_1:=r3.kC w1.heap.size 1 (.int .i64 0)
 have cb3_2:=r3.kC w1.heap.size 2 (.int .i64 0)
 have cb3_3:=r3.kC w1.heap.size 3 (.int .i64 0)
 have cb3_4:=r3.kC w1.heap.size 4 (.float .f32 0)
 have cb3_5:=r3.kC w1.heap.size 5 (.float .f32 0)
 have cb3_6:=r3.kC w1.heap.size 6 (.int .i64 (mF (t1 l)).g)
 have cb3_7:=r3.kC w1.heap.size 7 (.int .i64 (mF (t1 l)).m)
 have cb3_8:=r3.kC w1.heap.size 8 (.int .i64 (mF (t1 l)).s)
 have cb3_9:=r3.kC w1.heap.size 9 (.int .i64 (mF (t1 l)).a)
 have cb3_10:=r3.kC w1.heap.size 10 (.int .i64 (mF (t1 l)).n)
 have cb3_11:=r3.kC w1.heap.size 11 (.slice none 0 0)
 have cb3_12:=r3.kC w1.heap.size 12 (.slice none 0 0)
 have fb3:∀o,w3.frozen? ⟨w1.heap.size,o,none⟩=false:=r3.thaw (fun o=>by go_simp) (by simp;try omega) (by omega)
 have z3:=r3.size
 simp at z3
 have hc3:=r3.c
 have hf3:=r3.f
 have R3:=r3.pre (((((R2.store hb (k:=w1.heap.size) (by omega) 6 (.int .i64 (mF (t1 l)).g)).store hb (k:=w1.heap.size) (by omega) 7 (.int .i64 (mF (t1 l)).m)).store hb (k:=w1.heap.size) (by omega) 8 (.int .i64 (mF (t1 l)).s)).store hb (k:=w1.heap.size) (by omega) 9 (.int .i64 (mF (t1 l)).a)).store hb (k:=w1.heap.size) (by omega) 10 (.int .i64 (mF (t1 l)).n)).g
 clear ca2_0 ca2_1 ca2_2 ca2_3 ca2_4 ca2_5 ca2_6 ca2_7 ca2_8 ca2_9 ca2_10 ca2_11 ca2_12 fa2 cb2_0 cb2_1 cb2_2 cb2_3 cb2_4 cb2_5 cb2_6 cb2_7 cb2_8 cb2_9 cb2_10 cb2_11 cb2_12 fb2 hc2 hf2
 go_wp2_with fail
 refine Calls.mono (zT (iJ ni (t1 (tI (t1 l)))) no ho b _ ?_ ?_) ?_
 ·go_simp
 ·go_simp
 rintro e w4 ⟨v4,rfl,r4,o4⟩
 obtain ⟨a4,n4,q4,rfl⟩:=dD o4
 have O4:=Hid.mk' o4
 clear o4
 have ca4_0:=r4.kC w.heap.size 0 (.int .i64 0)
 have ca4_1:=r4.kC w.heap.size 1 (.int .i64 0)
 have ca4_2:=r4.kC w.heap.size 2 (.int .i64 0)
 have ca4_3:=r4.kC w.heap.size 3 (.int .i64 0)
 have ca4_4:=r4.kC w.heap.size 4 (.float .f32 0)
 have ca4_5:=r4.kC w.heap.size 5 (.float .f32 0)
 have ca4_6:=r4.kC w.heap.size 6 (.int .i64 0)
 have ca4_7:=r4.kC w.heap.size 7 (.int .i64 0)
 have ca4_8:=r4.kC w.heap.size 8 (.int .i64 0)
 have ca4_9:=r4.kC w.heap.size 9 (.int .i64 0)
 have ca4_10:=r4.kC w.heap.size 10 (.int .i64 0)
 have ca4_11:=r4.kC w.heap.size 11 (.slice none 0 0)
 have ca4_12:=r4.kC w.heap.size 12 (.slice none 0 0)
 have fa4:∀o,w4.frozen? ⟨w.heap.size,o,none⟩=false:=r4.thaw (fun o=>by go_simp) (by simp;try omega) (by omega)
 have cb4_0:=r4.kC w1.heap.size 0 (.int .i64 (6))
 have cb4_1:=r4.kC w1.heap.size 1 (.int .i64 0)
 have cb4_2:=r4.kC w1.heap.size 2 (.int .i64 0)
 have cb4_3:=r4.kC w1.heap.size 3 (.int .i64 0)
 have cb4_4:=r4.kC w1.heap.size 4 (.float .f32 0)
 have cb4_5:=r4.kC w1.heap.size 5 (.float .f32 0)
 have cb4_6:=r4.kC w1.heap.size 6 (.int .i64 (mF (t1 l)).g)
 have cb4_7:=r4.kC w1.heap.size 7 (.int .i64 (mF (t1 l)).m)
 have cb4_8:=r4.kC w1.heap.size 8 (.int .i64 (mF (t1 l)).s)
 have cb4_9:=r4.kC w1.heap.size 9 (.int .i64 (mF (t1 l)).a)
 have cb4_10:=r4.kC w1.heap.size 10 (.int .i64 (mF (t1 l)).n)
 have cb4_11:=r4.kC w1.heap.size 11 (.slice a3 n3 q3)
 have cb4_12:=r4.kC w1.heap.size 12 (.slice none 0 0)
 have fb4:∀o,w4.frozen? ⟨w1.heap.size,o,none⟩=false:=r4.thaw (fun o=>by go_simp) (by simp;try omega) (by omega)
 have z4:=r4.size
 simp at z4
 have hc4:=r4.c
 have hf4:=r4.f
 have R4:=r4.pre (R3.store hb (k:=w1.heap.size) (by omega) 11 (.slice a3 n3 q3)).g
 clear ca3_0 ca3_1 ca3_2 ca3_3 ca3_4 ca3_5 ca3_6 ca3_7 ca3_8 ca3_9 ca3_10 ca3_11 ca3_12 fa3 cb3_0 cb3_1 cb3_2 cb3_3 cb3_4 cb3_5 cb3_6 cb3_7 cb3_8 cb3_9 cb3_10 cb3_11 cb3_12 fb3 hc3 hf3
 go_wp2
 have E:(eP 6 (t1 l))=⟨6,0,bT,mF (t1 l),fC ni (t1 (tI (t1 l))),eC no (t1 (iJ ni (t1 (tI (t1 l)))))⟩:=by
  have e1:(b1 (tI (t1 l))).toNat=ni:=by rw[hi.out];rfl
  have e2:(b1 (iJ ni (t1 (tI (t1 l))))).toNat=no:=by rw[ho.out];rfl
  simp[eP,e1,e2]
 rw[E]
 have O3':=O3.out
 have O4':=O4.out
 simp only[jP] at O3' O4'
 have k3:∀k,k<=w1.heap.size->Value.ownBlock (.slice a3 n3 q3)≠some k:=fun k hk e=>by have:=(O3'.lt k e).1;omega
 have k4:∀k,k<=w1.heap.size->Value.ownBlock (.slice a4 n4 q4)≠some k:=fun k hk e=>by have:=(O4'.lt k e).1;omega
 have P3:=uJ (aH O3' w1.heap.size 11 (.slice a3 n3 q3) (k3 _ (Nat.le_refl _))) r4 (by omega)
 have hx:w.heap.size<=w1.heap.size:=by omega
 refine bodyPost_ret (v:=rv 6 0 bT (mF (t1 l)) (.slice a3 n3 q3) (.slice a4 n4 q4)) (by simp[results,results161,go_sem,rv,bT, *]) rfl ⟨_,_,rfl,?_,?_,?_,?_⟩
 ·exact ((((((((((((((R4.store hb (k:=w1.heap.size) (by omega) 12 (.slice a4 n4 q4)).store hb (k:=w.heap.size) (by omega) _ _).store hb (k:=w.heap.size) (by omega) _ _).store hb (k:=w.heap.size) (by omega) _ _).store hb (k:=w.heap.size) (by omega) _ _).store hb (k:=w.heap.size) (by omega) _ _).store hb (k:=w.heap.size) (by omega) _ _).store hb (k:=w.heap.size) (by omega) _ _).store hb (k:=w.heap.size) (by omega) _ _).store hb (k:=w.heap.size) (by omega) _ _).store hb (k:=w.heap.size) (by omega) _ _).store hb (k:=w.heap.size) (by omega) _ _).store hb (k:=w.heap.size) (by omega) _ _).store hb (k:=w.heap.size) (by omega) _ _).g
 ·exact bP (aH (aH (aH (aH (aH (aH (aH (aH (aH (aH (aH (aH (aH (aH P3 w1.heap.size 12 (.slice a4 n4 q4) (k3 _ (Nat.le_refl _))) w.heap.size _ _ (k3 _ hx)) w.heap.size _ _ (k3 _ hx)) w.heap.size _ _ (k3 _ hx)) w.heap.size _ _ (k3 _ hx)) w.heap.size _ _ (k3 _ hx)) w.heap.size _ _ (k3 _ hx)) w.heap.size _ _ (k3 _ hx)) w.heap.size _ _ (k3 _ hx)) w.heap.size _ _ (k3 _ hx)) w.heap.size _ _ (k3 _ hx)) w.heap.size _ _ (k3 _ hx)) w.heap.size _ _ (k3 _ hx)) w.heap.size _ _ (k3 _ hx)) (by omega)
 ·exact bP (aH (aH (aH (aH (aH (aH (aH (aH (aH (aH (aH (aH (aH (aH O4' w1.heap.size 12 (.slice a4 n4 q4) (k4 _ (Nat.le_refl _))) w.heap.size _ _ (k4 _ hx)) w.heap.size _ _ (k4 _ hx)) w.heap.size _ _ (k4 _ hx)) w.heap.size _ _ (k4 _ hx)) w.heap.size _ _ (k4 _ hx)) w.heap.size _ _ (k4 _ hx)) w.heap.size _ _ (k4 _ hx)) w.heap.size _ _ (k4 _ hx)) w.heap.size _ _ (k4 _ hx)) w.heap.size _ _ (k4 _ hx)) w.heap.size _ _ (k4 _ hx)) w.heap.size _ _ (k4 _ hx)) w.heap.size _ _ (k4 _ hx)) (by omega)
 ·intro j e3 e4
  have h3:=(aH O3' w1.heap.size 11 (.slice a3 n3 q3) (k3 _ (Nat.le_refl _))).lt j e3
  have h4:=O4'.lt j e4
  simp only[jP] at h3
  omega
theorem aEq (l:List UInt8)(hK:Hid (b1 l=7))(b:Nat)(w:World)(h:w.cell? ⟨b,0,none⟩=some (.string (S l)))(hf:w.frozen? ⟨b,0,none⟩=false):
  Calls prog 161 #[.pointer (some ⟨b,0,none⟩)] w fun e w'=>iK b w (eP 7 (t1 l)) e w':=by
 have hb:b<w.heap.size:=World.block_lt_of_cell? w _ h
 have hsf:=aK
 go_enter func161,ntmps161
 go_wp2_with fail
 refine Calls.mono (cB l b _ ?_ ?_) ?_
 ·go_simp
 ·go_simp
 rintro e w1 ⟨rfl,r1⟩
 rw[hK.out]
 have ca1_0:=r1.kC w.heap.size 0 (.int .i64 0)
 have ca1_1:=r1.kC w.heap.size 1 (.int .i64 0)
 have ca1_2:=r1.kC w.heap.size 2 (.int .i64 0)
 have ca1_3:=r1.kC w.heap.size 3 (.int .i64 0)
 have ca1_4:=r1.kC w.heap.size 4 (.float .f32 0)
 have ca1_5:=r1.kC w.heap.size 5 (.float .f32 0)
 have ca1_6:=r1.kC w.heap.size 6 (.int .i64 0)
 have ca1_7:=r1.kC w.heap.size 7 (.int .i64 0)
 have ca1_8:=r1.kC w.heap.size 8 (.int .i64 0)
 have ca1_9:=r1.kC w.heap.size 9 (.int .i64 0)
 have ca1_10:=r1.kC w.heap.size 10 (.int .i64 0)
 have ca1_11:=r1.kC w.heap.size 11 (.slice none 0 0)
 have ca1_12:=r1.kC w.heap.size 12 (.slice none 0 0)
 have fa1:∀o,w1.frozen? ⟨w.heap.size,o,none⟩=false:=r1.thaw (fun o=>by go_simp) (by simp;try omega) (by omega)
 have z1:=r1.size
 simp at z1
 have hc1:=r1.c
 have hf1:=r1.f
 have R1:=r1.pre (World.grownBy_alloc _ _ _)
 have y1:b<w1.heap.size:=by omega
 have x1:w.heap.size<w1.heap.size:=by omega
 have y2:b≠w1.heap.size:=by omega
 have x2:w.heap.size≠w1.heap.size:=by omega
 go_wp2_with fail
 refine Calls.mono (bZ (t1 l) b _ ?_ ?_) ?_
 ·go_simp
 ·go_simp
 rintro e w2 ⟨rfl,r2⟩
 have ca2_0:=r2.kC w.heap.size 0 (.int .i64 0)
 have ca2_1:=r2.kC w.heap.size 1 (.int .i64 0)
 have ca2_2:=r2.kC w.heap.size 2 (.int .i64 0)
 have ca2_3:=r2.kC w.heap.size 3 (.int .i64 0)
 have ca2_4:=r2.kC w.heap.size 4 (.float .f32 0)
 have ca2_5:=r2.kC w.heap.size 5 (.float .f32 0)
 have ca2_6:=r2.kC w.heap.size 6 (.int .i64 0)
 have ca2_7:=r2.kC w.heap.size 7 (.int .i64 0)
 have ca2_8:=r2.kC w.heap.size 8 (.int .i64 0)
 have ca2_9:=r2.kC w.heap.size 9 (.int .i64 0)
 have ca2_10:=r2.kC w.heap.size 10 (.int .i64 0)
 have ca2_11:=r2.kC w.heap.size 11 (.slice none 0 0)
 have ca2_12:=r2.kC w.heap.size 12 (.slice none 0 0)
 have fa2:∀o,w2.frozen? ⟨w.heap.size,o,none⟩=false:=r2.thaw (fun o=>by go_simp) (by simp;try omega) (by omega)
 have cb2_0:=r2.kC w1.heap.size 0 (.int .i64 (7))
 have cb2_1:=r2.kC w1.heap.size 1 (.int .i64 0)
 have cb2_2:=r2.kC w1.heap.size 2 (.int .i64 0)
 have cb2_3:=r2.kC w1.heap.size 3 (.int .i64 0)
 have cb2_4:=r2.kC w1.heap.size 4 (.float .f32 0)
 have cb2_5:=r2.kC w1.heap.size 5 (.float .f32 0)
 have cb2_6:=r2.kC w1.heap.size 6 (.int .i64 0)
 have cb2_7:=r2.kC w1.heap.size 7 (.int .i64 0)
 have cb2_8:=r2.kC w1.heap.size 8 (.int .i64 0)
 have cb2_9:=r2.kC w1.heap.size 9 (.int .i64 0)
 have cb2_10:=r2.kC w1.heap.size 10 (.int .i64 0)
 have cb2_11:=r2.kC w1.heap.size 11 (.slice none 0 0)
 have cb2_12:=r2.kC w1.heap.size 12 (.slice none 0 0)
 have fb2:∀o,w2.frozen? ⟨w1.heap.size,o,none⟩=false:=r2.thaw (fun o=>by go_simp) (by simp;try omega) (by omega)
 have z2:=r2.size
 simp at z2
 have hc2:=r2.c
 have hf2:=r2.f
 have R2:=r2.pre (R1.alloc _).g
 clear ca1_0 ca1_1 ca1_2 ca1_3 ca1_4 ca1_5 ca1_6 ca1_7 ca1_8 ca1_9 ca1_10 ca1_11 ca1_12 fa1 hc1 hf1
 go_wp2_with fail
 refine Calls.mono (kF (t2 (t1 l)) b _ ?_ ?_) ?_
 ·go_simp
 ·go_simp
 rintro e w3 ⟨rfl,r3⟩
 have ca3_0:=r3.kC w.heap.size 0 (.int .i64 0)
 have ca3_1:=r3.kC w.heap.size 1 (.int .i64 0)
 have ca3_2:=r3.kC w.heap.size 2 (.int .i64 0)
 have ca3_3:=r3.kC w.heap.size 3 (.int .i64 0)
 have ca3_4:=r3.kC w.heap.size 4 (.float .f32 0)
 have ca3_5:=r3.kC w.heap.size 5 (.float .f32 0)
 have ca3_6:=r3.kC w.heap.size 6 (.int .i64 0)
 have ca3_7:=r3.kC w.heap.size 7 (.int .i64 0)
 have ca3_8:=r3.kC w.heap.size 8 (.int .i64 0)
 have ca3_9:=r3.kC w.heap.size 9 (.int .i64 0)
 have ca3_10:=r3.kC w.heap.size 10 (.int .i64 0)
 have ca3_11:=r3.kC w.heap.size 11 (.slice none 0 0)
 have ca3_12:=r3.kC w.heap.size 12 (.slice none 0 0)
 have fa3:∀o,w3.frozen? ⟨w.heap.size,o,none⟩=false:=r3.thaw (fun o=>by go_simp) (by simp;try omega) (by omega)
 have cb3_0:=r3.kC w1.heap.size 0 (.int .i64 (7))
 have cb3_1:=r3.kC w1.heap.size 1 (.int .i64 (b2 (t1 l)))
 have cb3_2:=r3.kC w1.heap.size 2 (.int .i64 0)
 have cb3_3:=r3.kC w1.heap.size 3 (.int .i64 0)
 have cb3_4:=r3.kC w1.heap.size 4 (.float .f32 0)
 have cb3_5:=r3.kC w1.heap.size 5 (.float .f32 0)
 have cb3_6:=r3.kC w1.heap.size 6 (.int .i64 0)
 have cb3_7:=r3.kC w1.heap.size 7 (.int .i64 0)
 have cb3_8:=r3.kC w1.heap.size 8 (.int .i64 0)
 have cb3_9:=r3.kC w1.heap.size 9 (.int .i64 0)
 have cb3_10:=r3.kC w1.heap.size 10 (.int .i64 0)
 have cb3_11:=r3.kC w1.heap.size 11 (.slice none 0 0)
 have cb3_12:=r3.kC w1.heap.size 12 (.slice none 0 0)
 have fb3:∀o,w3.frozen? ⟨w1.heap.size,o,none⟩=false:=r3.thaw (fun o=>by go_simp) (by simp;try omega) (by omega)
 have z3:=r3.size
 simp at z3
 have hc3:=r3.c
 have hf3:=r3.f
 have R3:=r3.pre (R2.store hb (k:=w1.heap.size) (by omega) 1 (.int .i64 (b2 (t1 l)))).g
 clear ca2_0 ca2_1 ca2_2 ca2_3 ca2_4 ca2_5 ca2_6 ca2_7 ca2_8 ca2_9 ca2_10 ca2_11 ca2_12 fa2 cb2_0 cb2_1 cb2_2 cb2_3 cb2_4 cb2_5 cb2_6 cb2_7 cb2_8 cb2_9 cb2_10 cb2_11 cb2_12 fb2 hc2 hf2
 go_wp2
 refine bodyPost_ret (v:=rv (eP 7 (t1 l)).kind (eP 7 (t1 l)).seq (eP 7 (t1 l)).it (eP 7 (t1 l)).mks (.slice none 0 0) (.slice none 0 0)) (by simp[results,results161,go_sem,rv,eP,aZ, *]) rfl ⟨_,_,rfl,?_,?_,?_,by simp[Value.ownBlock]⟩
 ·exact (((((((((((((((((R3.store hb (k:=w1.heap.size) (by omega) 2 (.int .i64 (fU (t2 (t1 l))).sh)).store hb (k:=w1.heap.size) (by omega) 3 (.int .i64 (fU (t2 (t1 l))).nu)).store hb (k:=w1.heap.size) (by omega) 4 (.float .f32 (fU (t2 (t1 l))).pl)).store hb (k:=w1.heap.size) (by omega) 5 (.float .f32 (fU (t2 (t1 l))).sp)).store hb (k:=w.heap.size) (by omega) _ _).store hb (k:=w.heap.size) (by omega) _ _).store hb (k:=w.heap.size) (by omega) _ _).store hb (k:=w.heap.size) (by omega) _ _).store hb (k:=w.heap.size) (by omega) _ _).store hb (k:=w.heap.size) (by omega) _ _).store hb (k:=w.heap.size) (by omega) _ _).store hb (k:=w.heap.size) (by omega) _ _).store hb (k:=w.heap.size) (by omega) _ _).store hb (k:=w.heap.size) (by omega) _ _).store hb (k:=w.heap.size) (by omega) _ _).store hb (k:=w.heap.size) (by omega) _ _).store hb (k:=w.heap.size) (by omega) _ _).g
 ·simp only[eP];simp;exact OwnI.nil _ _
 ·simp only[eP];simp;exact OwnE.nil _ _
theorem aEr (l:List UInt8)(hK:Hid (b1 l=8))(b:Nat)(w:World)(h:w.cell? ⟨b,0,none⟩=some (.string (S l)))(hf:w.frozen? ⟨b,0,none⟩=false):
  Calls prog 161 #[.pointer (some ⟨b,0,none⟩)] w fun e w'=>iK b w (eP 8 (t1 l)) e w':=by
 have hb:b<w.heap.size:=World.block_lt_of_cell? w _ h
 have hsf:=aK
 go_enter func161,ntmps161
 go_wp2_with fail
 refine Calls.mono (cB l b _ ?_ ?_) ?_
 ·go_simp
 ·go_simp
 rintro e w1 ⟨rfl,r1⟩
 rw[hK.out]
 have ca1_0:=r1.kC w.heap.size 0 (.int .i64 0)
 have ca1_1:=r1.kC w.heap.size 1 (.int .i64 0)
 have ca1_2:=r1.kC w.heap.size 2 (.int .i64 0)
 have ca1_3:=r1.kC w.heap.size 3 (.int .i64 0)
 have ca1_4:=r1.kC w.heap.size 4 (.float .f32 0)
 have ca1_5:=r1.kC w.heap.size 5 (.float .f32 0)
 have ca1_6:=r1.kC w.heap.size 6 (.int .i64 0)
 have ca1_7:=r1.kC w.heap.size 7 (.int .i64 0)
 have ca1_8:=r1.kC w.heap.size 8 (.int .i64 0)
 have ca1_9:=r1.kC w.heap.size 9 (.int .i64 0)
 have ca1_10:=r1.kC w.heap.size 10 (.int .i64 0)
 have ca1_11:=r1.kC w.heap.size 11 (.slice none 0 0)
 have ca1_12:=r1.kC w.heap.size 12 (.slice none 0 0)
 have fa1:∀o,w1.frozen? ⟨w.heap.size,o,none⟩=false:=r1.thaw (fun o=>by go_simp) (by simp;try omega) (by omega)
 have z1:=r1.size
 simp at z1
 have hc1:=r1.c
 have hf1:=r1.f
 have R1:=r1.pre (World.grownBy_alloc _ _ _)
 have y1:b<w1.heap.size:=by omega
 have x1:w.heap.size<w1.heap.size:=by omega
 have y2:b≠w1.heap.size:=by omega
 have x2:w.heap.size≠w1.heap.size:=by omega
 go_wp2_with fail
 refine Calls.mono (bZ (t1 l) b _ ?_ ?_) ?_
 ·go_simp
 ·go_simp
 rintro e w2 ⟨rfl,r2⟩
 have ca2_0:=r2.kC w.heap.size 0 (.int .i64 0)
 have ca2_1:=r2.kC w.heap.size 1 (.int .i64 0)
 have ca2_2:=r2.kC w.heap.size 2 (.int .i64 0)
 have ca2_3:=r2.kC w.heap.size 3 (.int .i64 0)
 have ca2_4:=r2.kC w.heap.size 4 (.float .f32 0)
 have ca2_5:=r2.kC w.heap.size 5 (.float .f32 0)
 have ca2_6:=r2.kC w.heap.size 6 (.int .i64 0)
 have ca2_7:=r2.kC w.heap.size 7 (.int .i64 0)
 have ca2_8:=r2.kC w.heap.size 8 (.int .i64 0)
 have ca2_9:=r2.kC w.heap.size 9 (.int .i64 0)
 have ca2_10:=r2.kC w.heap.size 10 (.int .i64 0)
 have ca2_11:=r2.kC w.heap.size 11 (.slice none 0 0)
 have ca2_12:=r2.kC w.heap.size 12 (.slice none 0 0)
 have fa2:∀o,w2.frozen? ⟨w.heap.size,o,none⟩=false:=r2.thaw (fun o=>by go_simp) (by simp;try omega) (by omega)
 have cb2_0:=r2.kC w1.heap.size 0 (.int .i64 (8))
 have cb2_1:=r2.kC w1.heap.size 1 (.int .i64 0)
 have cb2_2:=r2.kC w1.heap.size 2 (.int .i64 0)
 have cb2_3:=r2.kC w1.heap.size 3 (.int .i64 0)
 have cb2_4:=r2.kC w1.heap.size 4 (.float .f32 0)
 have cb2_5:=r2.kC w1.heap.size 5 (.float .f32 0)
 have cb2_6:=r2.kC w1.heap.size 6 (.int .i64 0)
 have cb2_7:=r2.kC w1.heap.size 7 (.int .i64 0)
 have cb2_8:=r2.kC w1.heap.size 8 (.int .i64 0)
 have cb2_9:=r2.kC w1.heap.size 9 (.int .i64 0)
 have cb2_10:=r2.kC w1.heap.size 10 (.int .i64 0)
 have cb2_11:=r2.kC w1.heap.size 11 (.slice none 0 0)
 have cb2_12:=r2.kC w1.heap.size 12 (.slice none 0 0)
 have fb2:∀o,w2.frozen? ⟨w1.heap.size,o,none⟩=false:=r2.thaw (fun o=>by go_simp) (by simp;try omega) (by omega)
 have z2:=r2.size
 simp at z2
 have hc2:=r2.c
 have hf2:=r2.f
 have R2:=r2.pre (R1.alloc _).g
 clear ca1_0 ca1_1 ca1_2 ca1_3 ca1_4 ca1_5 ca1_6 ca1_7 ca1_8 ca1_9 ca1_10 ca1_11 ca1_12 fa1 hc1 hf1
 go_wp2
 refine bodyPost_ret (v:=rv (eP 8 (t1 l)).kind (eP 8 (t1 l)).seq (eP 8 (t1 l)).it (eP 8 (t1 l)).mks (.slice none 0 0) (.slice none 0 0)) (by simp[results,results161,go_sem,rv,eP,bT,aZ, *]) rfl ⟨_,_,rfl,?_,?_,?_,by simp[Value.ownBlock]⟩
 ·exact ((((((((((((((R2.store hb (k:=w1.heap.size) (by omega) 1 (.int .i64 (b2 (t1 l)))).store hb (k:=w.heap.size) (by omega) _ _).store hb (k:=w.heap.size) (by omega) _ _).store hb (k:=w.heap.size) (by omega) _ _).store hb (k:=w.heap.size) (by omega) _ _).store hb (k:=w.heap.size) (by omega) _ _).store hb (k:=w.heap.size) (by omega) _ _).store hb (k:=w.heap.size) (by omega) _ _).store hb (k:=w.heap.size) (by omega) _ _).store hb (k:=w.heap.size) (by omega) _ _).store hb (k:=w.heap.size) (by omega) _ _).store hb (k:=w.heap.size) (by omega) _ _).store hb (k:=w.heap.size) (by omega) _ _).store hb (k:=w.heap.size) (by omega) _ _).g
 ·simp only[eP];simp;exact OwnI.nil _ _
 ·simp only[eP];simp;exact OwnE.nil _ _
end Go.Proofs.YtammnaafdhhjaaaGreat
