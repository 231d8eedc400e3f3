import Derived.Test.YtammnaafdhhjaaaGreatJG5
import Derived.Test.YtammnaafdhhjaaaGreatJR96
import Derived.Test.YtammnaafdhhjaaaGreatS6
set_option maxHeartbeats 16000000
set_option maxRecDepth 100000
namespace Go.Proofs.YtammnaafdhhjaaaGreat
open Go.RowKit Go.Proofs.Tryz
structure Sh where
 no:Nat
 cI:Int
 cO:Int
 cJ:Int
 dk:Dk
 up:Bool
 ct:Nat
 th:List It
 ob:List En
 ms:Mk
def Sh.cells (s:Sh)(bd:Nat)(mv ov:Value):List Value:=
 [.int .i64 s.no,.int .i64 s.cI,.int .i64 s.cO,.int .i64 s.cJ,.pointer (some ⟨bd,0,none⟩),.bool s.up,.int .i64 s.ct,mv,ov,.int .i64 s.ms.g,.int .i64 s.ms.m,.int .i64 s.ms.s,.int .i64 s.ms.a,.int .i64 s.ms.n]
structure HS (w:World)(B b:Nat)(s:Sh)(bd bm:Nat)(ov:Value):Prop where
 at_:At w b (s.cells bd (.map (some bm)) ov)
 mp:Mp w bm s.th
 ob:OwnE B w ov s.ob
 n1:ov.ownBlock≠some b
 n2:bm≠b
 n3:ov.ownBlock≠some bm
 hB:B<=w.heap.size
def HS.foot (b bm:Nat)(ov:Value)(j:Nat):Prop:=j=b∨j=bm∨ov.ownBlock=some j
def cK (x:Nat):Int:=if FloatKind.f32.format.order x 0=some .lt then 0 else 1
theorem iA (x:Nat)(w:World):Calls prog 147 #[.float .f32 x] w fun e w'=>e=.returned (.int .i64 (cK x))/\w'=w:=by
 unfold cK
 by_cases h:FloatKind.f32.format.order x 0=some .lt
 ·rw[if_pos h]
  have hb:(FloatKind.f32.format.order x 0==some Ordering.lt)=true:=by rw[h];rfl
  go_enter func147,ntmps147
  go_wp2
  go_ret
  exact ⟨rfl,rfl⟩
 ·rw[if_neg h]
  have hb:(FloatKind.f32.format.order x 0==some Ordering.lt)=false:=by simpa using h
  go_enter func147,ntmps147
  go_wp2
  go_ret
  exact ⟨rfl,rfl⟩
theorem aFv (b:Nat)(s:Sh)(bd:Nat)(mv ov:Value)(w:World)(h:At w b (s.cells bd mv ov)):Calls prog 74 #[.pointer (some ⟨b,0,none⟩)] w fun e w'=>e=.returned (.bool s.up)/\w'=w:=by
 have c5:=h.c 5 _ rfl
 clear h
 go_enter func74,ntmps74
 go_wp2
 go_ret
 exact ⟨rfl,rfl⟩
def Sh.down (s:Sh):Sh:={s with up:=false,th:=[],ob:=[],ms:=aZ}
theorem gP (b:Nat)(s:Sh)(bd:Nat)(mv ov:Value)(w:World)(h:At w b (s.cells bd mv ov)):
  Calls prog 91 #[.pointer (some ⟨b,0,none⟩)] w fun e w'=>e=.returned (.int .i64 3)/\At w' b (s.down.cells bd (.map none) (.slice none 0 0))/\Only w w' (fun j=>j=b):=by
 have H:=Hid.mk' h
 have c5:=h.c 5 _ rfl
 have c7:=h.c 7 _ rfl
 have c8:=h.c 8 _ rfl
 have c9:=h.c 9 _ rfl
 have c10:=h.c 10 _ rfl
 have c11:=h.c 11 _ rfl
 have c12:=h.c 12 _ rfl
 have c13:=h.c 13 _ rfl
 have hf:=h.f
 clear h
 go_enter func91,ntmps91
 go_wp2
 go_ret
 refine ⟨rfl,?_,?_⟩
 ·exact (((((((H.out.put 5 (.bool false) (by simp[Sh.cells])).put 7 (.map none) (by simp[Sh.cells])).put 8 (.slice none 0 0) (by simp[Sh.cells])).put 9 (.int .i64 0) (by simp[Sh.cells])).put 10 (.int .i64 0) (by simp[Sh.cells])).put 11 (.int .i64 0) (by simp[Sh.cells])).put 12 (.int .i64 0) (by simp[Sh.cells])).put 13 (.int .i64 0) (by simp[Sh.cells])
 ·exact (Only.set w b 5 _).trans ((cW b [.map none,.slice none 0 0,.int .i64 0,.int .i64 0,.int .i64 0,.int .i64 0,.int .i64 0] _ 7).mono (fun _ _ e=>.inl e))
theorem Mp.len_run {w:World}{bm:Nat}{th:List It}(h:Mp w bm th)(ty:TypeId):(Builtin.len_ #[128] ty #[.map (some bm)]).run prog w=.ok (.int .i64 th.length) w:=by
 obtain ⟨es,clock,hb,hz⟩:=h.len
 simp[Builtin.len_,run_underlying underlying128,MapKept.run_getObj_map hb,Result.andThen,goInt,hz]
theorem Mp.drew {w:World}{bm:Nat}{th:List It}(h:Mp w bm th):Mp w.drew bm th:=h.only ((Only.refl w (fun _=>False)).drew) (by simp)
theorem nN (B b bd bm:Nat)(ov:Value)(s:Sh)(w:World)(h:HS w B b s bd bm ov):
  Calls prog 148 #[.pointer (some ⟨b,0,none⟩)] w fun e w'=>e=.returned (.bool (decide (s.cI<=(s.th.length:Int))))/\w.grownBy w' none:=by
 have c7:=h.at_.c 7 _ rfl
 have c1:=h.at_.c 1 _ rfl
 have hlen:=h.mp.drew.len_run 3
 clear h
 go_enter func148,ntmps148
 go_wp2_with fail
 go_region
 all_goals
  go_wp2
  go_ret
  exact ⟨rfl,aA (aD _ _)⟩
def Sh.mayLeave (s:Sh):Bool:=decide ((s.ob.length:Int)<s.cO)&&decide (s.ms.s<65535)
theorem lP (B b bd bm:Nat)(ov:Value)(s:Sh)(w:World)(h:HS w B b s bd bm ov):
  Calls prog 198 #[.pointer (some ⟨b,0,none⟩)] w fun e w'=>e=.returned (.bool s.mayLeave)/\w.grownBy w' none:=by
 obtain ⟨ao,co,hov⟩:=aJ h.ob
 have c8:=h.at_.c 8 _ rfl
 have c2:=h.at_.c 2 _ rfl
 have c11:=h.at_.c 11 _ rfl
 rw[hov] at c8
 clear h hov
 unfold Sh.mayLeave
 by_cases h1:(s.ob.length:Int)<s.cO
 ·rw[decide_eq_true h1,Bool.true_and]
  go_enter func198,ntmps198
  go_wp2_with fail
  go_quiet (fail)
  go_wp2
  go_ret
  exact ⟨rfl,aL (aD _ _) nq⟩
 ·have h2:decide ((s.ob.length:Int)<s.cO)=false:=decide_eq_false h1
  rw[h2,Bool.false_and]
  go_enter func198,ntmps198
  go_wp2_with fail
  go_quiet (fail)
  go_wp2
  go_ret
  exact ⟨rfl,aL (aD _ _) nq⟩
def Sh.leave (s:Sh)(i:It):Sh:={s with th:=eJ s.th i.sh i.nu,ob:=s.ob++[⟨s.ms.s+1,i⟩],ms:={s.ms with s:=s.ms.s+1}}
theorem xO (B b bd bm:Nat)(ov:Value)(s:Sh)(i:It)(w:World)(h:HS w B b s bd bm ov)(ha:bD i.sh)(hb:bD i.nu)(hl:s.ob.length<=1000)(hs0:0<=s.ms.s)(hs1:s.ms.s<=65535):
  Calls prog 199 #[.pointer (some ⟨b,7,none⟩),kD i] w fun e w'=>e=.returned (.tuple #[])/\∃ov',HS w' B b (s.leave i) bd bm ov'/\Only w w' (HS.foot b bm ov)/\(∀j,ov'.ownBlock=some j->ov.ownBlock=some j∨w.heap.size<=j):=by
 obtain ⟨ao,co,rfl⟩:=aJ h.ob
 have H:=Hid.mk' h
 have c7:=h.at_.c 7 _ rfl
 have hf:=h.at_.f
 have hbl:=h.at_.lt
 have hml:=h.mp.lt
 have hne:¬b=w.heap.size:=by omega
 have hne2:bm≠b:=h.n2
 clear h
 unfold kD
 go_enter func199,ntmps199
 go_wp2_with fail
 have g0:=Hid.mk' (aA (World.grownBy_alloc w (.cells #[.int .i64 i.sh,.int .i64 i.nu,.float .f32 i.pl,.float .f32 i.sp] 75) none))
 obtain ⟨w1,hrun,m1,g1⟩:=(H.out.mp.only (Only.grown g0.out) (by simp)).drop i.sh i.nu ha hb
 have G1:=Hid.mk' (tQ g1 g0.out)
 have bx:∀j u,[Value.int .i64 i.sh,.int .i64 i.nu,.float .f32 i.pl,.float .f32 i.sp][j]?=some u->w1.cell? ⟨w.heap.size,j,none⟩=some u:=fun j u hu=>g1.cell ((aA (aD _ none)).cell (by have:=At.new w [Value.int .i64 i.sh,.int .i64 i.nu,.float .f32 i.pl,.float .f32 i.sp] 75;exact this.c j u hu) (by simp)) (by simp;omega)
 unfold mW at hrun
 go_region
 all_goals
  have A1:At w1 b (s.cells bd (.map (some bm)) (.slice ao s.ob.length co)):=(H.out.at_.only (Only.grown G1.out) (by simp;omega))
  have O1:OwnE B w1 (.slice ao s.ob.length co) s.ob:=World.ownsRow.kept H.out.ob G1.out (.inr H.out.n3)
  have c8:=A1.c 8 _ rfl
  have c11:=A1.c 11 _ rfl
  have hf1:=A1.f
  have x0:=bx 0 _ rfl
  have x1:=bx 1 _ rfl
  have x2:=bx 2 _ rfl
  have x3:=bx 3 _ rfl
  have z1:=G1.out.size
  have A2:=Hid.mk' (A1.put 11 (.int .i64 (s.ms.s+1)) (by simp[Sh.cells]))
  have O2:Hid (OwnE B (w1.setCell ⟨b,11,none⟩ (.int .i64 (s.ms.s+1))) (.slice ao s.ob.length co) s.ob):=aH O1 _ _ _ H.out.n1
  have M2:Hid (Mp (w1.setCell ⟨b,11,none⟩ (.int .i64 (s.ms.s+1))) bm (eJ s.th i.sh i.nu)):=m1.only (Only.set w1 b 11 _) hne2
  have hlt1:w.heap.size<w1.heap.size:=by have:=World.block_lt_of_cell? w1 _ x0;exact this
  have hB:=H.out.hB
  clear bx A1 O1 m1 g1 hrun
  go_wp2_with fail
  have y0:(w1.setCell ⟨b,11,none⟩ (.int .i64 (s.ms.s+1))).cell? ⟨w.heap.size,0,none⟩=some (.int .i64 i.sh):=(Only.set w1 b 11 _).cell x0 (by simp;omega)
  have y1:(w1.setCell ⟨b,11,none⟩ (.int .i64 (s.ms.s+1))).cell? ⟨w.heap.size,1,none⟩=some (.int .i64 i.nu):=(Only.set w1 b 11 _).cell x1 (by simp;omega)
  have y2:(w1.setCell ⟨b,11,none⟩ (.int .i64 (s.ms.s+1))).cell? ⟨w.heap.size,2,none⟩=some (.float .f32 i.pl):=(Only.set w1 b 11 _).cell x2 (by simp;omega)
  have y3:(w1.setCell ⟨b,11,none⟩ (.int .i64 (s.ms.s+1))).cell? ⟨w.heap.size,3,none⟩=some (.float .f32 i.sp):=(Only.set w1 b 11 _).cell x3 (by simp;omega)
  have P2:=Hid.mk' ((Only.grown G1.out).mono (A':=HS.foot b bm (.slice ao s.ob.length co)) (fun k _ e=>.inr (.inl (by injection e with e;exact e.symm))) |>.trans ((Only.set w1 b 11 (.int .i64 (s.ms.s+1))).mono (fun _ _ e=>.inl (.inl e))))
  have zz:w1.heap.size=(w1.setCell ⟨b,11,none⟩ (.int .i64 (s.ms.s+1))).heap.size:=by simp
  generalize w1.setCell ⟨b,11,none⟩ (.int .i64 (s.ms.s+1))=W2 at *
  clear c8 c11 hf1 x0 x1 x2 x3 G1
  have c8:=A2.out.c 8 _ rfl
  have c11:=A2.out.c 11 _ rfl
  have hf2:=A2.out.f
  have hw5:b≠W2.heap.size:=by omega
  have hw6:w.heap.size≠W2.heap.size:=by omega
  have hw7:b<W2.heap.size:=by omega
  have hw8:w.heap.size<W2.heap.size:=by omega
  clear zz hlt1 z1
  have N1:=Hid.mk' H.out.n1
  go_region_law (first | (refine pK rfl (.tmp 23) (.tmp 31) rfl B (.slice ao s.ob.length co) s.ob (by simp[Act.eval]) (World.ownsRow.alloc (World.ownsRow.drew O2.out) _) ⟨W2.heap.size,0,none⟩ ⟨s.ms.s+1,i⟩ (by simp[Act.eval]) (aW _ (⟨s.ms.s+1,i⟩:En).cells _ _ rfl) (by omega) (by simp;omega) ?_;intro v' w4 o4 g4 h4;obtain ⟨a',n',c',rfl⟩:=dD o4;have A4:=Hid.mk' ((A2.out.grown (aG (aA (aD W2 none)) _)).only (Only.grown g4) N1.out);have s8:=A4.out.c 8 _ rfl;have f4:=A4.out.f))
  all_goals
   have q0:W2.grownBy ((W2.alloc (.cells #[.int .i64 (s.ms.s+1),.int .i64 i.sh,.int .i64 i.nu,.float .f32 i.pl,.float .f32 i.sp] 87)).drew) none:=aA (World.grownBy_alloc W2 _ none)
   have hv:∀j,Value.ownBlock (.slice a' n' c')=some j->Value.ownBlock (.slice ao s.ob.length co)=some j∨W2.heap.size<=j:=fun j hj=>by
    rcases h4 with e | e
    ·rw[e] at hj;exact .inl hj
    ·rw[e] at hj;injection hj with hj;exact .inr (by simp at hj;omega)
   refine bodyPost_end (v:=.tuple #[]) (by simp[results,results199]) rfl ⟨rfl,.slice a' n' c',⟨A4.out.put 8 _ (by simp[Sh.cells]),?_,?_,?_,hne2,?_,?_⟩,?_,fun j hj=>?_⟩
   ·exact ((M2.out.only (Only.grown q0) (by simp)).only (Only.grown g4) H.out.n3).only (Only.set w4 b 8 _) hne2
   ·exact aH o4 _ _ _ (fun e=>by rcases hv b e with e | e;exact N1.out e;omega)
   ·exact fun e=>by rcases hv b e with e | e;exact N1.out e;omega
   ·exact fun e=>by rcases hv bm e with e | e;exact H.out.n3 e;omega
   ·have:=q0.size
    have:=g4.size
    simp at *
    omega
   ·refine P2.out.trans (((Only.grown q0).mono (by simp)).trans (((Only.grown g4).mono (fun k _ e=>.inl (.inl (.inr (.inr e))))).trans ((Only.set w4 b 8 _).mono (fun _ _ e=>.inl (.inl (.inl (.inl e)))))))
   ·rcases hv j hj with e | e
    ·exact .inl e
    ·exact .inr (by omega)
def lD (x:Nat):Prop:=(Ieee.Format.read FloatKind.f32.format x).isNaN=false
theorem lQ {x:Nat}(h:aS x=true):∃s m e,Ieee.Format.read FloatKind.f32.format x=.number s m e:=by
 simp only[aS,Bool.and_eq_true,Bool.or_eq_true,beq_iff_eq,Ieee.Format.order] at h
 have e1:Ieee.Format.read FloatKind.f32.format 3296329728=.number true 16384000 (-14):=by decide+kernel
 have e2:Ieee.Format.read FloatKind.f32.format 1148846080=.number false 16384000 (-14):=by decide+kernel
 rw[e1,e2] at h
 generalize Ieee.Format.read FloatKind.f32.format x=d at *
 cases d with
 | nan s f=>simp[Ieee.Datum.order] at h
 | infinity s=>cases s<;>simp[Ieee.Datum.order] at h
 | number s m e=>exact ⟨s,m,e,rfl⟩
theorem xP (neg:Bool)(mag:Nat)(place:Int):lD (Ieee.Format.nearest FloatKind.f32.format neg mag place):=by
 have key:∀(r:Nat),r<=2139095040->lD (Ieee.Format.word FloatKind.f32.format neg r):=fun r hr=>by
  have e:Ieee.Format.word FloatKind.f32.format neg r % 2147483648=r:=by
   show (if neg=true then (2147483648+r) else r) % 2147483648=r
   split<;>omega
  unfold lD Ieee.Format.read
  have hw:(FloatKind.f32.format.signWeight)=2147483648:=by decide+kernel
  have hb:(FloatKind.f32.format.binade)=8388608:=by decide+kernel
  have hi:(FloatKind.f32.format.infRung)=2139095040:=by decide+kernel
  simp only[hw,hb,hi,e]
  split
  ·rfl
  ·split
   ·rfl
   ·rw[if_pos (by omega)]
    rfl
 unfold Ieee.Format.nearest
 dsimp only
 split
 ·exact key 0 (by omega)
 ·exact key _ (by
   have hi:(FloatKind.f32.format.infRung)=2139095040:=by decide+kernel
   rw[hi]
   exact Nat.min_le_right _ _)
def bM (x y:Nat):Nat:=(FloatKind.f32.format.add x y).getD 0
theorem aFw {x y:Nat}(hx:aS x=true)(hy:aS y=true):FloatKind.f32.format.add x y=some (bM x y)/\lD (bM x y):=by
 obtain ⟨s,m,e,h1⟩:=lQ hx
 obtain ⟨s',m',e',h2⟩:=lQ hy
 have h3:∃a b c,FloatKind.f32.format.add x y=some (Ieee.Format.nearest FloatKind.f32.format a b c):=by
  unfold Ieee.Format.add
  rw[h1,h2]
  exact ⟨_,_,_,rfl⟩
 obtain ⟨a,b,c,h3⟩:=h3
 unfold bM
 rw[h3]
 exact ⟨rfl,xP a b c⟩
theorem rT {x y:Nat}(hx:lD x)(hy:lD y):∃o,FloatKind.f32.format.order x y=some o:=by
 unfold lD at hx hy
 simp only[Ieee.Format.order]
 generalize Ieee.Format.read FloatKind.f32.format x=a at *
 generalize Ieee.Format.read FloatKind.f32.format y=b at *
 cases a<;>cases b<;>simp[Ieee.Datum.order,Ieee.Datum.isNaN] at *
def xQ (q:Nat):Bool:=FloatKind.f32.format.order q 3296329728==some Ordering.lt
def rU (q:Nat):Bool:=FloatKind.f32.format.order q 1148846080==some Ordering.gt
theorem aFx {q:Nat}(h:lD q):(xQ q || rU q)= !aS q:=by
 have n1:lD 3296329728:=by unfold lD;decide+kernel
 have n2:lD 1148846080:=by unfold lD;decide+kernel
 obtain ⟨o1,h1⟩:=rT h n1
 obtain ⟨o2,h2⟩:=rT h n2
 have h3:FloatKind.f32.format.order 3296329728 q=some o1.swap:=by rw[rO (x:=q),h1];rfl
 unfold xQ rU aS
 rw[h1,h2,h3]
 cases o1<;>cases o2<;>rfl
def iB (x:Nat):Nat:=Op.negFloat .f32 x
def Sh.driftOne (s:Sh)(i:It):Sh:=
 if aS (bM i.pl i.sp)=false then {s with th:=dB s.th ⟨i.sh,i.nu,i.pl,iB i.sp⟩}
 else if cK (bM i.pl i.sp)=(s.no:Int) then {s with th:=dB s.th ⟨i.sh,i.nu,bM i.pl i.sp,i.sp⟩}
 else if s.mayLeave=true then s.leave ⟨i.sh,i.nu,bM i.pl i.sp,i.sp⟩ else s
theorem fQ (x y:Nat)(hx:aS x=true)(hy:aS y=true)(W:World):(binOp BinOp.add 33 (.float .f32 x) (.float .f32 y)).run prog W=.ok (.float .f32 (bM x y)) W:=
 run_float_arith (P:=prog) W .add 33 .f32 x y (bM x y) (aFw hx hy).1
structure DrOk (s:Sh)(i:It):Prop where
 a:bD i.sh
 b:bD i.nu
 x:aS i.pl=true
 y:aS i.sp=true
 l:s.ob.length<=1000
 s0:0<=s.ms.s
 s1:s.ms.s<=65535
theorem HS.put {w w':World}{B b bd bm:Nat}{ov:Value}{s:Sh}{i:It}(h:HS w B b s bd bm ov)(m:Mp w' bm (dB s.th i))(o:Only w w' (fun j=>j=bm)):HS w' B b {s with th:=dB s.th i} bd bm ov:=
 ⟨h.at_.only o (fun e=>h.n2 e.symm),m,o.own h.ob (fun j hj e=>h.n3 (by rw[<- e];exact hj)),h.n1,h.n2,h.n3,Nat.le_trans h.hB o.size⟩
theorem HS.grown {w w':World}{B b bd bm:Nat}{ov:Value}{s:Sh}(h:HS w B b s bd bm ov)(g:w.grownBy w' none):HS w' B b s bd bm ov:=
 ⟨h.at_.grown g,h.mp.only (Only.grown g) (by simp),aO h.ob g,h.n1,h.n2,h.n3,Nat.le_trans h.hB g.size⟩
theorem HS.set {w:World}{B b bd bm:Nat}{ov:Value}{s:Sh}(h:HS w B b s bd bm ov)(k o:Nat)(v:Value)(h1:b≠k)(h2:bm≠k)(h3:ov.ownBlock≠some k):HS (w.setCell ⟨k,o,none⟩ v) B b s bd bm ov:=
 ⟨h.at_.only (Only.set w k o v) h1,h.mp.only (Only.set w k o v) h2,aH h.ob _ _ _ h3,h.n1,h.n2,h.n3,by simpa using h.hB⟩
theorem HS.fresh {w:World}{B b bd bm:Nat}{ov:Value}{s:Sh}(h:HS w B b s bd bm ov):b≠w.heap.size/\bm≠w.heap.size/\ov.ownBlock≠some w.heap.size:=
 ⟨by have:=h.at_.lt;omega,by have:=h.mp.lt;omega,fun e=>by have:=(h.ob.lt _ e).2;omega⟩
theorem fR (x:Nat)(W:World):(Op.unary UnOp.neg (.float .f32 x)).run prog W=.ok (.float .f32 (iB x)) W:=rfl
theorem aCY (B b bd bm:Nat)(ov:Value)(s:Sh)(i:It)(w:World)(h:HS w B b s bd bm ov)(hh:DrOk s i)(hq:xQ (bM i.pl i.sp)=true):
  Calls prog 170 #[.pointer (some ⟨b,0,none⟩),kD i] w fun e w'=>e=.returned (.tuple #[])/\∃ov',HS w' B b ({s with th:=dB s.th ⟨i.sh,i.nu,i.pl,iB i.sp⟩}) bd bm ov'/\Only w w' (HS.foot b bm ov)/\(∀j,ov'.ownBlock=some j->ov.ownBlock=some j∨w.heap.size<=j):=by
 have H:=Hid.mk' h
 have hbl:=h.at_.lt
 have c0:=h.at_.c 0 _ rfl
 have c7:=h.at_.c 7 _ rfl
 have hne:b≠w.heap.size:=by omega
 clear h
 have hadd:=fQ i.pl i.sp hh.x hh.y
 generalize bM i.pl i.sp=q at *
 have hsf:=aK
 have hng:=fR
 have hq':(FloatKind.f32.format.order q 3296329728==some Ordering.lt)=true:=hq
 unfold kD
 have G0:=Hid.mk' (World.grownBy_alloc w (.cells #[.int .i64 i.sh,.int .i64 i.nu,.float .f32 i.pl,.float .f32 i.sp] 75) none)
 go_enter func170,ntmps170
 go_wp2_with fail
 have H2:=Hid.mk' (H.out.grown (World.grownBy_alloc w (.cells #[.int .i64 i.sh,.int .i64 i.nu,.float .f32 i.pl,.float .f32 (iB i.sp)] 75) none))
 have P2:Hid (Only w (w.alloc (.cells #[.int .i64 i.sh,.int .i64 i.nu,.float .f32 i.pl,.float .f32 (iB i.sp)] 75)) (HS.foot b bm ov)):=((Only.grown (World.grownBy_alloc w (.cells #[.int .i64 i.sh,.int .i64 i.nu,.float .f32 i.pl,.float .f32 (iB i.sp)] 75) none)).mono (by simp))
 go_region_law (first | (go_simp;go_at_call 142;refine Calls.mono (iV b 7 bm s.th ⟨i.sh,i.nu,i.pl,iB i.sp⟩ _ (by go_simp) (H2.out.mp.drew) hh.a hh.b) ?_;rintro e w9 ⟨rfl,m9,g9⟩))
 all_goals
  go_wp2
  refine bodyPost_end (v:=.tuple #[]) (by simp[results,results170]) rfl ⟨rfl,ov,(H2.out.grown (aA (aD _ none))).put m9 ((Only.grown g9).mono (fun _ _ e=>by injection e with e;exact e.symm)),?_,fun j hj=>.inl hj⟩
  exact P2.out.drew.trans ((Only.grown g9).mono (fun k _ e=>.inl (.inr (.inl (by injection e with e;exact e.symm)))))
theorem aAu (B b bd bm:Nat)(ov:Value)(s:Sh)(i:It)(w:World)(h:HS w B b s bd bm ov)(hh:DrOk s i)(hq:xQ (bM i.pl i.sp)=false)(hr:rU (bM i.pl i.sp)=true):
  Calls prog 170 #[.pointer (some ⟨b,0,none⟩),kD i] w fun e w'=>e=.returned (.tuple #[])/\∃ov',HS w' B b ({s with th:=dB s.th ⟨i.sh,i.nu,i.pl,iB i.sp⟩}) bd bm ov'/\Only w w' (HS.foot b bm ov)/\(∀j,ov'.ownBlock=some j->ov.ownBlock=some j∨w.heap.size<=j):=by
 have H:=Hid.mk' h
 have hbl:=h.at_.lt
 have c0:=h.at_.c 0 _ rfl
 have c7:=h.at_.c 7 _ rfl
 have hne:b≠w.heap.size:=by omega
 clear h
 have hadd:=fQ i.pl i.sp hh.x hh.y
 generalize bM i.pl i.sp=q at *
 have hsf:=aK
 have hng:=fR
 have hq':(FloatKind.f32.format.order q 3296329728==some Ordering.lt)=false:=hq
 have hr':(FloatKind.f32.format.order q 1148846080==some Ordering.gt)=true:=hr
 unfold kD
 have G0:=Hid.mk' (World.grownBy_alloc w (.cells #[.int .i64 i.sh,.int .i64 i.nu,.float .f32 i.pl,.float .f32 i.sp] 75) none)
 go_enter func170,ntmps170
 go_wp2_with fail
 have H2:=Hid.mk' (H.out.grown (World.grownBy_alloc w (.cells #[.int .i64 i.sh,.int .i64 i.nu,.float .f32 i.pl,.float .f32 (iB i.sp)] 75) none))
 have P2:Hid (Only w (w.alloc (.cells #[.int .i64 i.sh,.int .i64 i.nu,.float .f32 i.pl,.float .f32 (iB i.sp)] 75)) (HS.foot b bm ov)):=((Only.grown (World.grownBy_alloc w (.cells #[.int .i64 i.sh,.int .i64 i.nu,.float .f32 i.pl,.float .f32 (iB i.sp)] 75) none)).mono (by simp))
 go_region_law (first | (go_simp;go_at_call 142;refine Calls.mono (iV b 7 bm s.th ⟨i.sh,i.nu,i.pl,iB i.sp⟩ _ (by go_simp) (H2.out.mp.drew) hh.a hh.b) ?_;rintro e w9 ⟨rfl,m9,g9⟩))
 all_goals
  go_wp2
  refine bodyPost_end (v:=.tuple #[]) (by simp[results,results170]) rfl ⟨rfl,ov,(H2.out.grown (aA (aD _ none))).put m9 ((Only.grown g9).mono (fun _ _ e=>by injection e with e;exact e.symm)),?_,fun j hj=>.inl hj⟩
  exact P2.out.drew.trans ((Only.grown g9).mono (fun k _ e=>.inl (.inr (.inl (by injection e with e;exact e.symm)))))
theorem aAv (B b bd bm:Nat)(ov:Value)(s:Sh)(i:It)(w:World)(h:HS w B b s bd bm ov)(hh:DrOk s i)(hq:xQ (bM i.pl i.sp)=false)(hr:rU (bM i.pl i.sp)=false)(ht:cK (bM i.pl i.sp)=(s.no:Int)):
  Calls prog 170 #[.pointer (some ⟨b,0,none⟩),kD i] w fun e w'=>e=.returned (.tuple #[])/\∃ov',HS w' B b ({s with th:=dB s.th ⟨i.sh,i.nu,bM i.pl i.sp,i.sp⟩}) bd bm ov'/\Only w w' (HS.foot b bm ov)/\(∀j,ov'.ownBlock=some j->ov.ownBlock=some j∨w.heap.size<=j):=by
 have H:=Hid.mk' h
 have hbl:=h.at_.lt
 have c0:=h.at_.c 0 _ rfl
 have c7:=h.at_.c 7 _ rfl
 have hne:b≠w.heap.size:=by omega
 clear h
 have hadd:=fQ i.pl i.sp hh.x hh.y
 generalize bM i.pl i.sp=q at *
 have hsf:=aK
 have hng:=fR
 have hq':(FloatKind.f32.format.order q 3296329728==some Ordering.lt)=false:=hq
 have hr':(FloatKind.f32.format.order q 1148846080==some Ordering.gt)=false:=hr
 have hsb:(cK q==(s.no:Int))=true:=by simp[ht]
 unfold kD
 have G0:=Hid.mk' (World.grownBy_alloc w (.cells #[.int .i64 i.sh,.int .i64 i.nu,.float .f32 i.pl,.float .f32 i.sp] 75) none)
 go_enter func170,ntmps170
 go_wp2_with fail
 have H2:=Hid.mk' (H.out.grown (aA (World.grownBy_alloc w (.cells #[.int .i64 i.sh,.int .i64 i.nu,.float .f32 q,.float .f32 i.sp] 75) none)))
 have P2:Hid (Only w ((w.alloc (.cells #[.int .i64 i.sh,.int .i64 i.nu,.float .f32 q,.float .f32 i.sp] 75)).drew) (HS.foot b bm ov)):=((Only.grown (aA (World.grownBy_alloc w (.cells #[.int .i64 i.sh,.int .i64 i.nu,.float .f32 q,.float .f32 i.sp] 75) none))).mono (by simp))
 go_region_law (first | (go_simp;go_at_call 147;refine Calls.mono (iA q _) ?_;rintro e w8 ⟨rfl,rfl⟩))
 all_goals
  go_wp2_with fail
  go_region_law (first | (go_simp;go_at_call 142;refine Calls.mono (iV b 7 bm s.th ⟨i.sh,i.nu,q,i.sp⟩ _ (by go_simp) (H2.out.mp.drew) hh.a hh.b) ?_;rintro e w9 ⟨rfl,m9,g9⟩))
  all_goals
   go_wp2
   refine bodyPost_end (v:=.tuple #[]) (by simp[results,results170]) rfl ⟨rfl,ov,(H2.out.grown (aA (aD _ none))).put m9 ((Only.grown g9).mono (fun _ _ e=>by injection e with e;exact e.symm)),?_,fun j hj=>.inl hj⟩
   exact P2.out.drew.trans ((Only.grown g9).mono (fun k _ e=>.inl (.inr (.inl (by injection e with e;exact e.symm)))))
theorem aAw (B b bd bm:Nat)(ov:Value)(s:Sh)(i:It)(w:World)(h:HS w B b s bd bm ov)(hh:DrOk s i)(hq:xQ (bM i.pl i.sp)=false)(hr:rU (bM i.pl i.sp)=false)(ht:¬cK (bM i.pl i.sp)=(s.no:Int))(hm:s.mayLeave=false):
  Calls prog 170 #[.pointer (some ⟨b,0,none⟩),kD i] w fun e w'=>e=.returned (.tuple #[])/\∃ov',HS w' B b (s) bd bm ov'/\Only w w' (HS.foot b bm ov)/\(∀j,ov'.ownBlock=some j->ov.ownBlock=some j∨w.heap.size<=j):=by
 have H:=Hid.mk' h
 have hbl:=h.at_.lt
 have c0:=h.at_.c 0 _ rfl
 have c7:=h.at_.c 7 _ rfl
 have hne:b≠w.heap.size:=by omega
 clear h
 have hadd:=fQ i.pl i.sp hh.x hh.y
 generalize bM i.pl i.sp=q at *
 have hsf:=aK
 have hng:=fR
 have hq':(FloatKind.f32.format.order q 3296329728==some Ordering.lt)=false:=hq
 have hr':(FloatKind.f32.format.order q 1148846080==some Ordering.gt)=false:=hr
 have hsb:(cK q==(s.no:Int))=false:=by simp[ht]
 unfold kD
 have G0:=Hid.mk' (World.grownBy_alloc w (.cells #[.int .i64 i.sh,.int .i64 i.nu,.float .f32 i.pl,.float .f32 i.sp] 75) none)
 go_enter func170,ntmps170
 go_wp2_with fail
 go_region_law (first | (go_simp;go_at_call 147;refine Calls.mono (iA q _) ?_;rintro e w8 ⟨rfl,rfl⟩))
 all_goals
  go_wp2_with fail
  refine Calls.mono (lP B b bd bm ov s _ (H.out.grown (aA G0.out))) ?_
  rintro e w7 ⟨rfl,g7⟩
  rw[hm]
  have G7:=Hid.mk' ((aA G0.out).trans g7)
  have k0:=gC g7 w.heap.size 0 (.int .i64 i.sh)
  have k1:=gC g7 w.heap.size 1 (.int .i64 i.nu)
  have k2:=gC g7 w.heap.size 2 (.float .f32 i.pl)
  have k3:=gC g7 w.heap.size 3 (.float .f32 i.sp)
  have kf:∀j,w7.frozen? ⟨w.heap.size,j,none⟩=false:=fun j=>(World.frozen?_of_block (a:=⟨w.heap.size,j,none⟩) (g7.block w.heap.size (by simp) (by simp))).trans (by go_simp)
  clear g7
  go_wp2
  refine bodyPost_end (v:=.tuple #[]) (by simp[results,results170]) rfl ⟨rfl,ov,H.out.grown G7.out,(Only.grown G7.out).mono (by simp),fun j hj=>.inl hj⟩
theorem aFy (B b bd bm:Nat)(ov:Value)(s:Sh)(i:It)(w:World)(h:HS w B b s bd bm ov)(hh:DrOk s i)(hq:xQ (bM i.pl i.sp)=false)(hr:rU (bM i.pl i.sp)=false)(ht:¬cK (bM i.pl i.sp)=(s.no:Int))(hm:s.mayLeave=true):
  Calls prog 170 #[.pointer (some ⟨b,0,none⟩),kD i] w fun e w'=>e=.returned (.tuple #[])/\∃ov',HS w' B b (s.leave ⟨i.sh,i.nu,bM i.pl i.sp,i.sp⟩) bd bm ov'/\Only w w' (HS.foot b bm ov)/\(∀j,ov'.ownBlock=some j->ov.ownBlock=some j∨w.heap.size<=j):=by
 have H:=Hid.mk' h
 have hbl:=h.at_.lt
 have c0:=h.at_.c 0 _ rfl
 have c7:=h.at_.c 7 _ rfl
 have hne:b≠w.heap.size:=by omega
 clear h
 have hadd:=fQ i.pl i.sp hh.x hh.y
 generalize bM i.pl i.sp=q at *
 have hsf:=aK
 have hng:=fR
 have hq':(FloatKind.f32.format.order q 3296329728==some Ordering.lt)=false:=hq
 have hr':(FloatKind.f32.format.order q 1148846080==some Ordering.gt)=false:=hr
 have hsb:(cK q==(s.no:Int))=false:=by simp[ht]
 unfold kD
 have G0:=Hid.mk' (World.grownBy_alloc w (.cells #[.int .i64 i.sh,.int .i64 i.nu,.float .f32 i.pl,.float .f32 i.sp] 75) none)
 go_enter func170,ntmps170
 go_wp2_with fail
 go_region_law (first | (go_simp;go_at_call 147;refine Calls.mono (iA q _) ?_;rintro e w8 ⟨rfl,rfl⟩))
 all_goals
  go_wp2_with fail
  refine Calls.mono (lP B b bd bm ov s _ (H.out.grown (aA G0.out))) ?_
  rintro e w7 ⟨rfl,g7⟩
  rw[hm]
  have G7:=Hid.mk' ((aA G0.out).trans g7)
  have k0:=gC g7 w.heap.size 0 (.int .i64 i.sh)
  have k1:=gC g7 w.heap.size 1 (.int .i64 i.nu)
  have k2:=gC g7 w.heap.size 2 (.float .f32 i.pl)
  have k3:=gC g7 w.heap.size 3 (.float .f32 i.sp)
  have kf:∀j,w7.frozen? ⟨w.heap.size,j,none⟩=false:=fun j=>(World.frozen?_of_block (a:=⟨w.heap.size,j,none⟩) (g7.block w.heap.size (by simp) (by simp))).trans (by go_simp)
  clear g7
  have H7:=Hid.mk' ((H.out.grown G7.out).set w.heap.size 2 (.float .f32 q) H.out.fresh.1 H.out.fresh.2.1 H.out.fresh.2.2)
  have P7:Hid (Only w (w7.setCell ⟨w.heap.size,2,none⟩ (.float .f32 q)) (HS.foot b bm ov)):=((Only.grown G7.out).mono (by simp)).trans ((Only.set _ w.heap.size 2 _).mono (fun _ _ e=>.inr (by omega)))
  go_wp2_with fail
  go_region_law (first | (go_simp;go_at_call 199;refine Calls.mono (xO B b bd bm ov s ⟨i.sh,i.nu,q,i.sp⟩ _ (H7.out.grown (aA (aD _ none))) hh.a hh.b hh.l hh.s0 hh.s1) ?_;rintro e w9 ⟨rfl,ov',h9,o9,v9⟩))
  all_goals
   go_wp2
   refine bodyPost_end (v:=.tuple #[]) (by simp[results,results170]) rfl ⟨rfl,ov',h9,P7.out.drew.trans (o9.mono (fun _ _ e=>.inl e)),fun j hj=>?_⟩
   rcases v9 j hj with e | e
   ·exact .inl e
   ·have:=G7.out.size
    simp at e
    exact .inr (by omega)
theorem rV (B b bd bm:Nat)(ov:Value)(s:Sh)(i:It)(w:World)(h:HS w B b s bd bm ov)(hh:DrOk s i):
  Calls prog 170 #[.pointer (some ⟨b,0,none⟩),kD i] w fun e w'=>e=.returned (.tuple #[])/\∃ov',HS w' B b (s.driftOne i) bd bm ov'/\Only w w' (HS.foot b bm ov)/\(∀j,ov'.ownBlock=some j->ov.ownBlock=some j∨w.heap.size<=j):=by
 have fn:=aFx (aFw hh.x hh.y).2
 unfold Sh.driftOne
 cases hq:xQ (bM i.pl i.sp)
 ·cases hr:rU (bM i.pl i.sp)
  ·rw[hq,hr] at fn
   have hn:aS (bM i.pl i.sp)=true:=by cases hc:aS (bM i.pl i.sp)<;>simp_all
   rw[if_neg (by rw[hn];simp)]
   by_cases ht:cK (bM i.pl i.sp)=(s.no:Int)
   ·rw[if_pos ht]
    exact aAv B b bd bm ov s i w h hh hq hr ht
   ·rw[if_neg ht]
    cases hm:s.mayLeave
    ·rw[if_neg (by simp)]
     exact aAw B b bd bm ov s i w h hh hq hr ht hm
    ·rw[if_pos rfl]
     exact aFy B b bd bm ov s i w h hh hq hr ht hm
  ·rw[hq,hr] at fn
   have hn:aS (bM i.pl i.sp)=false:=by cases hc:aS (bM i.pl i.sp)<;>simp_all
   rw[if_pos hn]
   exact aAu B b bd bm ov s i w h hh hq hr
 ·rw[hq] at fn
  have hn:aS (bM i.pl i.sp)=false:=by cases hc:aS (bM i.pl i.sp)<;>simp_all
  rw[if_pos hn]
  exact aCY B b bd bm ov s i w h hh hq
theorem lR (r:Rc)(vi vo:Value)(w:World)(hi:bH w vi r.items)(ho:bL w vo r.outs)(hm:aP r=true)(wf:WfR r):
  Calls prog 126 #[rv r.kind r.seq r.it r.mks vi vo] w fun e w'=>e=.returned (.string (S (enc r)))/\w.grownBy w' none:=by
 obtain ⟨ai,ci,rfl,_⟩:=id hi
 obtain ⟨ao,co,rfl,_⟩:=id ho
 have G0:=Hid.mk' (World.grownBy_alloc w (.cells #[.int .i64 r.kind,.int .i64 r.seq,.int .i64 r.it.sh,.int .i64 r.it.nu,.float .f32 r.it.pl,.float .f32 r.it.sp,.int .i64 r.mks.g,.int .i64 r.mks.m,.int .i64 r.mks.s,.int .i64 r.mks.a,.int .i64 r.mks.n,.slice ai r.items.length ci,.slice ao r.outs.length co] 139) none)
 have A:=Hid.mk' (rA r _ _ _ (hi.grown G0.out) (ho.grown G0.out) hm wf)
 clear hi ho
 unfold rv at *
 go_enter func126,ntmps126
 go_wp2_with fail
 refine Calls.mono A.out ?_
 rintro e w1 ⟨rfl,g1⟩
 go_wp2
 go_ret
 exact ⟨rfl,G0.out.trans g1⟩
def aY (r:Rc):List UInt8:=n2 ((enc r).length:Int)++enc r
theorem dT (r:Rc)(vi vo:Value)(w:World)(hi:bH w vi r.items)(ho:bL w vo r.outs)(hm:aP r=true)(wf:WfR r):
  Calls prog 122 #[rv r.kind r.seq r.it r.mks vi vo] w fun e w'=>e=.returned (.string (S (aY r)))/\w.grownBy w' none:=by
 obtain ⟨ai,ci,rfl,_⟩:=id hi
 obtain ⟨ao,co,rfl,_⟩:=id ho
 have G0:=Hid.mk' (World.grownBy_alloc w (.cells #[.int .i64 r.kind,.int .i64 r.seq,.int .i64 r.it.sh,.int .i64 r.it.nu,.float .f32 r.it.pl,.float .f32 r.it.sp,.int .i64 r.mks.g,.int .i64 r.mks.m,.int .i64 r.mks.s,.int .i64 r.mks.a,.int .i64 r.mks.n,.slice ai r.items.length ci,.slice ao r.outs.length co] 139) none)
 have A:=Hid.mk' (lR r _ _ _ (hi.grown G0.out) (ho.grown G0.out) hm wf)
 clear hi ho
 unfold aY
 have hl:=(dM r hm).2
 have z0:=aQ (enc r)
 obtain ⟨n,hn⟩:∃n,(enc r).length=n:=⟨_,rfl⟩
 rw[hn] at hl z0 ⊢
 have E2:Hid (#[.int .u8 ((n:Int) / 256),.int .u8 ((n:Int) % 256)]=((n2 n).map qI).toArray):=by
  show _=_
  simp only[n2,List.map_cons,List.map_nil]
  rw[gJ _ (by omega) (by omega),gJ _ (by omega) (by omega)]
 have hc:S (n2 (n:Int))++S (enc r)=S (n2 (n:Int)++enc r):=kJ _ _
 have o8:(S (n2 n)).size=2:=by rw[aQ];rfl
 generalize enc r=T at *
 unfold rv at *
 go_enter func122,ntmps122
 go_wp2_with fail
 refine Calls.mono A.out ?_
 rintro e w1 ⟨rfl,g1⟩
 have G1:=Hid.mk' (G0.out.trans g1)
 have k2:=oB _ _ _ _ (uW w1 (n2 n) _ E2.out (by simp[n2]))
 have hn2:(n2 (n:Int)).length=2:=rfl
 simp only[hn2] at k2
 go_wp2_with fail
 go_ret
 exact ⟨rfl,aG G1.out _⟩
theorem Mp.made (w:World):Mp (w.alloc (.map #[] 0)) w.heap.size []:=
 ⟨⟨#[],0,heap_alloc_new w _,⟨by simp,by simp,by simp⟩,rfl⟩,by simp⟩
theorem At.alloc {w:World}{b:Nat}{vs:List Value}(h:At w b vs)(o:Obj):At (w.alloc o) b vs:=h.grown (World.grownBy_alloc w o none)
theorem nO {w W w':World}{b:Nat}(g:W.grownBy w' (some b))(h:w.grownBy W none)(hb:w.heap.size<=b):w.grownBy w' none:=
 ⟨g.os.trans h.os,g.tape.trans h.tape,g.output.trans h.output,Nat.le_trans h.size g.size,fun k hk _=>by
  have hz:=h.size
  rw[g.block k (by omega) (fun e=>by injection e with e;omega),h.block k hk (by simp)]⟩
def zeroSt:List Value:=[.map none,.slice none 0 0,.int .i64 0,.int .i64 0,.int .i64 0,.int .i64 0,.int .i64 0]
theorem xR (K s:Int)(i:It)(m:Mk)(is:List It)(vi vo:Value)(w:World)(hi:bH w vi is)(ho:∃a n c,vo=.slice a n c)(hr:∀x∈is,bD x.sh/\bD x.nu)(hl:is.length<=1000):
  Calls prog 141 #[rv K s i m vi vo] w fun e w'=>∃bm,e=.returned (.agg #[.map (some bm),vo,.int .i64 m.g,.int .i64 m.m,.int .i64 m.s,.int .i64 m.a,.int .i64 m.n])/\Mp w' bm (is.foldl dB [])/\w.heap.size<=bm/\w.grownBy w' none:=by
 obtain ⟨ao,no,co,rfl⟩:=ho
 obtain ⟨ai,ci,rfl,hx⟩:=hi
 have HX:=Hid.mk' hx
 have HR:=Hid.mk' hr
 clear hx hr
 obtain ⟨n,hn⟩:∃n,is.length=n:=⟨_,rfl⟩
 have HN:=Hid.mk' hn
 rw[hn] at hl ⊢
 clear hn
 have hmm:= @run_makeMap prog
 have hsf:=aK
 unfold rv
 go_enter func141,ntmps141
 go_wp2_with fail
 have A2:Hid (At ((((w.alloc (.cells #[.int .i64 K,.int .i64 s,.int .i64 i.sh,.int .i64 i.nu,.float .f32 i.pl,.float .f32 i.sp,.int .i64 m.g,.int .i64 m.m,.int .i64 m.s,.int .i64 m.a,.int .i64 m.n,.slice ai n ci,.slice ao no co] 139)).alloc (.cells zeroSt.toArray 130)).alloc (.map #[] 0)).alloc (.cells #[.map (some (w.heap.size+1+1)),.slice ao no co,.int .i64 m.g,.int .i64 m.m,.int .i64 m.s,.int .i64 m.a,.int .i64 m.n] 130)) (w.heap.size+1) zeroSt):=by
  have:=(((At.new (w.alloc (.cells #[.int .i64 K,.int .i64 s,.int .i64 i.sh,.int .i64 i.nu,.float .f32 i.pl,.float .f32 i.sp,.int .i64 m.g,.int .i64 m.m,.int .i64 m.s,.int .i64 m.a,.int .i64 m.n,.slice ai n ci,.slice ao no co] 139)) zeroSt 130).alloc (.map #[] 0)).alloc (.cells #[.map (some (w.heap.size+1+1)),.slice ao no co,.int .i64 m.g,.int .i64 m.m,.int .i64 m.s,.int .i64 m.a,.int .i64 m.n] 130))
  rw[World.size_alloc] at this
  exact this
 have A3:Hid (At ((((w.alloc (.cells #[.int .i64 K,.int .i64 s,.int .i64 i.sh,.int .i64 i.nu,.float .f32 i.pl,.float .f32 i.sp,.int .i64 m.g,.int .i64 m.m,.int .i64 m.s,.int .i64 m.a,.int .i64 m.n,.slice ai n ci,.slice ao no co] 139)).alloc (.cells zeroSt.toArray 130)).alloc (.map #[] 0)).alloc (.cells #[.map (some (w.heap.size+1+1)),.slice ao no co,.int .i64 m.g,.int .i64 m.m,.int .i64 m.s,.int .i64 m.a,.int .i64 m.n] 130)) (w.heap.size+1+1+1) [.map (some (w.heap.size+1+1)),.slice ao no co,.int .i64 m.g,.int .i64 m.m,.int .i64 m.s,.int .i64 m.a,.int .i64 m.n]):=by
  have:=At.new (((w.alloc (.cells #[.int .i64 K,.int .i64 s,.int .i64 i.sh,.int .i64 i.nu,.float .f32 i.pl,.float .f32 i.sp,.int .i64 m.g,.int .i64 m.m,.int .i64 m.s,.int .i64 m.a,.int .i64 m.n,.slice ai n ci,.slice ao no co] 139)).alloc (.cells zeroSt.toArray 130)).alloc (.map #[] 0)) [.map (some (w.heap.size+1+1)),.slice ao no co,.int .i64 m.g,.int .i64 m.m,.int .i64 m.s,.int .i64 m.a,.int .i64 m.n] 130
  rw[World.size_alloc,World.size_alloc,World.size_alloc] at this
  exact this
 have M0:Hid (Mp ((((w.alloc (.cells #[.int .i64 K,.int .i64 s,.int .i64 i.sh,.int .i64 i.nu,.float .f32 i.pl,.float .f32 i.sp,.int .i64 m.g,.int .i64 m.m,.int .i64 m.s,.int .i64 m.a,.int .i64 m.n,.slice ai n ci,.slice ao no co] 139)).alloc (.cells zeroSt.toArray 130)).alloc (.map #[] 0)).alloc (.cells #[.map (some (w.heap.size+1+1)),.slice ao no co,.int .i64 m.g,.int .i64 m.m,.int .i64 m.s,.int .i64 m.a,.int .i64 m.n] 130)) (w.heap.size+1+1) []):=by
  have:=(Mp.made ((w.alloc (.cells #[.int .i64 K,.int .i64 s,.int .i64 i.sh,.int .i64 i.nu,.float .f32 i.pl,.float .f32 i.sp,.int .i64 m.g,.int .i64 m.m,.int .i64 m.s,.int .i64 m.a,.int .i64 m.n,.slice ai n ci,.slice ao no co] 139)).alloc (.cells zeroSt.toArray 130))).only (Only.grown (World.grownBy_alloc _ (.cells #[.map (some (w.heap.size+1+1)),.slice ao no co,.int .i64 m.g,.int .i64 m.m,.int .i64 m.s,.int .i64 m.a,.int .i64 m.n] 130) none)) (by simp)
  rw[World.size_alloc,World.size_alloc] at this
  exact this
 go_loopw [15] (fun t wr=>∃k:Nat,k<=n/\t=.int .i64 k/\Mp wr (w.heap.size+1+1) ((is.take k).foldl dB [])/\At wr (w.heap.size+1) zeroSt/\At wr (w.heap.size+1+1+1) [.map (some (w.heap.size+1+1)),.slice ao no co,.int .i64 m.g,.int .i64 m.m,.int .i64 m.s,.int .i64 m.a,.int .i64 m.n]/\w.grownBy wr none) (fun t _=>n -(intOf t).toNat)
 case atStart=>exact ⟨0,by omega,rfl,M0.out,A2.out,A3.out,aG (aG (aG (World.grownBy_alloc w _ none) _) _) _⟩
 case round=>
  clear M0 A2 A3
  obtain ⟨k,hk,rfl,mk,k2,k3,gk⟩:=hrel
  have MK:=Hid.mk' mk
  have K2:=Hid.mk' k2
  have K3:=Hid.mk' k3
  clear mk k2 k3
  by_cases hlt:k<n
  ·have hkl:k<is.length:=by rw[HN.out];exact hlt
   obtain ⟨g,off,rfl,hc⟩:=HX.out (by omega)
   obtain ⟨x,hx⟩:∃x,is[k]=x:=⟨_,rfl⟩
   have d:∀j (hj:j<4) u,x.cells[j]?=some u->wr.cell? ⟨g,off+k * 4+j,none⟩=some u:=fun j hj u hu=>by
    have:=hc (4 * k+j) u (by rw[cQ is k j hkl hj,hx];exact hu)
    rw[show off+(4 * k+j)=off+k * 4+j by omega] at this
    exact gk.cell this (by simp)
   have d0:=d 0 (by omega) _ rfl
   have d1:=d 1 (by omega) _ rfl
   have d2:=d 2 (by omega) _ rfl
   have d3:=d 3 (by omega) _ rfl
   have hxm:x∈is:=by rw[<- hx];exact List.getElem_mem hkl
   have hr:=HR.out x hxm
   have htk:is.take (k+1)=is.take k++[x]:=by rw[List.take_succ_eq_append_getElem hkl,hx]
   have HTK:=Hid.mk' htk
   clear d hx hxm htk
   rw[Nat.add_zero] at d0
   have y0:(0:Int)<=(k:Int):=by omega
   have y1:(k:Int)<(n:Int):=by omega
   have GK:=Hid.mk' gk
   clear gk hc
   go_wp2_with fail
   refine Calls.mono (iV (w.heap.size+1+1+1) 0 (w.heap.size+1+1) ((is.take k).foldl dB []) x _ ((K3.out.alloc _).c 0 _ rfl) (MK.out.only (Only.grown (World.grownBy_alloc wr _ none)) (by simp)) hr.1 hr.2) ?_
   rintro e w1 ⟨rfl,m1,g1⟩
   have M1:=Hid.mk' m1
   have GG:=Hid.mk' g1
   clear m1 g1
   go_wp2
   refine ⟨⟨k+1,by omega,by go_num,?_,(K2.out.alloc _).only (Only.grown GG.out) (by simp),(K3.out.alloc _).only (Only.grown GG.out) (by simp),nO GG.out (aG GK.out _) (by omega)⟩,by simp[intOf];omega⟩
   rw[HTK.out,List.foldl_append]
   exact M1.out
  ·have hkn:k=n:=by omega
   subst hkn
   rw[List.take_of_length_le (by rw[HN.out];exact Nat.le_refl _)] at MK
   have e0:=K3.out.c 0 _ rfl
   have e1:=K3.out.c 1 _ rfl
   have e2:=K3.out.c 2 _ rfl
   have e3:=K3.out.c 3 _ rfl
   have e4:=K3.out.c 4 _ rfl
   have e5:=K3.out.c 5 _ rfl
   have e6:=K3.out.c 6 _ rfl
   have f0:=K2.out.c 0 _ rfl
   have f1:=K2.out.c 1 _ rfl
   have f2:=K2.out.c 2 _ rfl
   have f3:=K2.out.c 3 _ rfl
   have f4:=K2.out.c 4 _ rfl
   have f5:=K2.out.c 5 _ rfl
   have f6:=K2.out.c 6 _ rfl
   have hf:=K2.out.f
   have P2:=Hid.mk' (cW (w.heap.size+1) [.map (some (w.heap.size+1+1)),.slice ao no co,.int .i64 m.g,.int .i64 m.m,.int .i64 m.s,.int .i64 m.a,.int .i64 m.n] wr 0)
   have GG:Hid (w.grownBy (mR wr (w.heap.size+1) 0 [.map (some (w.heap.size+1+1)),.slice ao no co,.int .i64 m.g,.int .i64 m.m,.int .i64 m.s,.int .i64 m.a,.int .i64 m.n]) none):=⟨P2.out.os.trans gk.os,P2.out.tape.trans gk.tape,P2.out.output.trans gk.output,Nat.le_trans gk.size P2.out.size,fun j hj _=>by
    have:=gk.size
    rw[P2.out.block j (by omega) (by omega),gk.block j hj (by simp)]⟩
   go_wp2
   refine bodyPost_ret (v:=.agg #[.map (some (w.heap.size+1+1)),.slice ao no co,.int .i64 m.g,.int .i64 m.m,.int .i64 m.s,.int .i64 m.a,.int .i64 m.n]) (by simp[results,results141,go_sem, *]) rfl ⟨_,rfl,?_,by omega,GG.out⟩
   exact MK.out.only P2.out (by omega)
def bA:List Rc->Int
 | []=> -1
 | p::_=>if p.kind=6 then p.mks.g else -1
theorem fX (v:Value)(B:Nat)(rs:List Rw)(w:World)(h:w.ownsRow B 139 13 v rs.length (rs.flatMap Rw.cells))(hl:rs.length<=1000000):
  Calls prog 87 #[v] w fun e w'=>e=.returned (.int .i64 (bA (rs.map Rw.p)))/\w'=w:=by
 cases rs with
 | nil=>
  obtain ⟨a,c,rfl⟩:=aJ h
  clear h hl
  show Calls prog 87 #[.slice a 0 c] w _
  go_enter func87,ntmps87
  go_wp2
  go_ret
  exact ⟨rfl,rfl⟩
 | cons r t=>
  obtain ⟨g,c,rfl⟩:∃g c,v=.slice (some ⟨g,0,none⟩) (t.length+1) c:=by
   rcases h.2 with ⟨_,h'⟩ | ⟨g,cap,cur,h',_⟩
   ·simp at h'
   ·exact ⟨g,cap,h'⟩
  have hl':t.length+1<=1000000:=hl
  have c0:w.cell? ⟨g,0,none⟩=some (.int .i64 r.p.kind):=(h.cellAt 0 (by show 0<(t.length+1) * 13;omega)).trans rfl
  have c6:w.cell? ⟨g,6,none⟩=some (.int .i64 r.p.mks.g):=(h.cellAt 6 (by show 6<(t.length+1) * 13;omega)).trans rfl
  clear h hl
  have hne:((((t.length+1:Nat):Int))==0)=false:=by rw[beq_eq_false_iff_ne];omega
  show Calls prog 87 #[.slice (some ⟨g,0,none⟩) (t.length+1) c] w fun e w'=>e=.returned (.int .i64 (if r.p.kind=6 then r.p.mks.g else -1))/\w'=w
  obtain ⟨n,hn⟩:∃n,t.length+1=n:=⟨_,rfl⟩
  rw[hn] at hl' hne ⊢
  have hp:0<n:=by omega
  have hp':(0:Int)<(n:Int):=by omega
  clear hn
  by_cases hk:r.p.kind=6
  ·rw[if_pos hk]
   have hk':(r.p.kind !=6)=false:=by simp[hk]
   go_enter func87,ntmps87
   go_wp2
   go_ret
   exact ⟨rfl,rfl⟩
  ·rw[if_neg hk]
   have hk':(r.p.kind !=6)=true:=by simp[hk]
   go_enter func87,ntmps87
   go_wp2
   go_ret
   exact ⟨rfl,rfl⟩
theorem lS0 {α:Type}(a b:α)(l:List α):(a::l).set 0 b=b::l:=rfl
theorem lS1 {α:Type}(a b:α)(l:List α)(n:Nat):(a::l).set (n+1) b=a::l.set n b:=rfl
theorem aF:(∀{α:Type} (a b:α) (l:List α),(a::l).set 0 b=b::l)/\(∀{α:Type} (a b:α) (l:List α) (n:Nat),(a::l).set (n+1) b=a::l.set n b):=⟨lS0,lS1⟩
section
variable {P : Program} {ops : Array Oper} {Q : Exit -> Act -> World -> Prop} {S : World -> Prop} {fuel i d ty : Nat} {listed : Array Bool} {ts : List Value} {ds : List Deferred} {w : World} {op : Op} {pos : String} {af : Array Edge} {gd : Option (Nat × Bool)} {v : Value}
theorem aFz (i:Nat)(hi:ops[i]?=some ⟨some d,op,ty,pos,af,gd⟩)(hs:Region.noSelect ops=true)(hf:Region.free .any ops listed i=true)(hr:(Region.ready .any ops listed).contains i=true)
  (hQ:∀c (a:Act) w,Q (.panic c) (a.put (some d) v) w->Q (.panic c) a w) (hw:Region.wanted ⟨some d,op,ty,pos,af,gd⟩ (yielded ops ts.toArray)=true)
  (hy:∀w,S w->(execOp (Act.eval ⟨ts.toArray,ds⟩) ⟨some d,op,ty,pos,af,gd⟩).run P w=.ok (.value v) w) (hS:S w)
  (h:wpAnyH P .any ops Q S fuel (listed.setIfInBounds i true) ⟨(ts.set d v).toArray,ds⟩ w):wpAnyH P .any ops Q S (fuel+1) listed ⟨ts.toArray,ds⟩ w:=by
 refine wpAnyH_take hi hs hf hr hQ (.inl ⟨hw,hy⟩) hS ?_
 simpa [Act.put] using h
theorem aJN (i:Nat)(hi:ops[i]?=some ⟨some d,op,ty,pos,af,gd⟩)(hs:Region.noSelect ops=true)(hf:Region.free .any ops listed i=true)(hr:(Region.ready .any ops listed).contains i=true)
  (hQ:∀c (a:Act) w,Q (.panic c) (a.put (some d) undef) w->Q (.panic c) a w) (hw:Region.wanted ⟨some d,op,ty,pos,af,gd⟩ (yielded ops ts.toArray)=false) (hS:S w)
  (h:wpAnyH P .any ops Q S fuel (listed.setIfInBounds i true) ⟨(ts.set d undef).toArray,ds⟩ w):wpAnyH P .any ops Q S (fuel+1) listed ⟨ts.toArray,ds⟩ w:=by
 refine wpAnyH_take hi hs hf hr hQ (.inr ⟨hw,rfl⟩) hS ?_
 simpa [Act.put] using h
theorem aN (i:Nat)(h:wpAnyH P .any ops Q S fuel (listed.setIfInBounds i true) ⟨(ts.set d v).toArray,ds⟩ w)(hi:ops[i]?=some ⟨some d,op,ty,pos,af,gd⟩:=by rfl)(hs:Region.noSelect ops=true:=by kernel_rfl)(hf:Region.free .any ops listed i=true:=by kernel_rfl)(hr:(Region.ready .any ops listed).contains i=true:=by kernel_rfl)
  (hQ:∀c (a:Act) w,Q (.panic c) (a.put (some d) v) w->Q (.panic c) a w:=by exact fun _ _ _ h=>h) (hw:Region.wanted ⟨some d,op,ty,pos,af,gd⟩ (yielded ops ts.toArray)=true:=by rfl)
  (hy:∀w,S w->(execOp (Act.eval ⟨ts.toArray,ds⟩) ⟨some d,op,ty,pos,af,gd⟩).run P w=.ok (.value v) w:=by intro w hSw;go_simp;try with_reducible rfl) (hS:S w:=by assumption):wpAnyH P .any ops Q S (fuel+1) listed ⟨ts.toArray,ds⟩ w:=
 aFz i hi hs hf hr hQ hw hy hS h
theorem dG (i:Nat)(hi:ops[i]?=some ⟨some d,op,ty,pos,af,gd⟩)(hy:∀w,S w->(execOp (Act.eval ⟨ts.toArray,ds⟩) ⟨some d,op,ty,pos,af,gd⟩).run P w=.ok (.value v) w)(h:wpAnyH P .any ops Q S fuel (listed.setIfInBounds i true) ⟨(ts.set d v).toArray,ds⟩ w)(hs:Region.noSelect ops=true:=by kernel_rfl)(hf:Region.free .any ops listed i=true:=by kernel_rfl)(hr:(Region.ready .any ops listed).contains i=true:=by kernel_rfl)
  (hQ:∀c (a:Act) w,Q (.panic c) (a.put (some d) v) w->Q (.panic c) a w:=by exact fun _ _ _ h=>h) (hw:Region.wanted ⟨some d,op,ty,pos,af,gd⟩ (yielded ops ts.toArray)=true:=by rfl) (hS:S w:=by assumption):wpAnyH P .any ops Q S (fuel+1) listed ⟨ts.toArray,ds⟩ w:=
 aFz i hi hs hf hr hQ hw hy hS h
theorem bV {T:World→Prop}(i:Nat)(f:∀w,S w→T w)(h:wpAnyH P .any ops Q S fuel (listed.setIfInBounds i true) ⟨(ts.set d v).toArray,ds⟩ w)(hi:ops[i]?=some ⟨some d,op,ty,pos,af,gd⟩:=by rfl)(hy:∀w,T w→(execOp (Act.eval ⟨ts.toArray,ds⟩) ⟨some d,op,ty,pos,af,gd⟩).run P w=.ok (.value v) w:=by intro w hSw;go_simp;try with_reducible rfl)(hs:Region.noSelect ops=true:=by kernel_rfl)(hf:Region.free .any ops listed i=true:=by kernel_rfl)(hr:(Region.ready .any ops listed).contains i=true:=by kernel_rfl)
 (hQ:∀c (a:Act) w,Q (.panic c) (a.put (some d) v) w→Q (.panic c) a w:=by exact fun _ _ _ h=>h) (hw:Region.wanted ⟨some d,op,ty,pos,af,gd⟩ (yielded ops ts.toArray)=true:=by rfl) (hS:S w:=by assumption):wpAnyH P .any ops Q S (fuel+1) listed ⟨ts.toArray,ds⟩ w:=
 aFz i hi hs hf hr hQ hw (fun w hw=>hy w (f w hw)) hS h
theorem cP (i:Nat)(h:wpAnyH P .any ops Q S fuel (listed.setIfInBounds i true) ⟨(ts.set d undef).toArray,ds⟩ w)(hi:ops[i]?=some ⟨some d,op,ty,pos,af,gd⟩:=by rfl)(hs:Region.noSelect ops=true:=by kernel_rfl)(hf:Region.free .any ops listed i=true:=by kernel_rfl)(hr:(Region.ready .any ops listed).contains i=true:=by kernel_rfl)
  (hQ:∀c (a:Act) w,Q (.panic c) (a.put (some d) undef) w->Q (.panic c) a w:=by exact fun _ _ _ h=>h) (hw:Region.wanted ⟨some d,op,ty,pos,af,gd⟩ (yielded ops ts.toArray)=false:=by rfl) (hS:S w:=by assumption):wpAnyH P .any ops Q S (fuel+1) listed ⟨ts.toArray,ds⟩ w:=
 aJN i hi hs hf hr hQ hw hS h
theorem aX (i:Nat){f:Nat}{args:Array Value}(hr:Region.ready .any ops listed=[i])(hi:ops[i]?=some ⟨some d,op,ty,pos,af,gd⟩)(hw:Region.wanted ⟨some d,op,ty,pos,af,gd⟩ (yielded ops ts.toArray)=true)
  (hy:(execOp (Act.eval ⟨ts.toArray,ds⟩) ⟨some d,op,ty,pos,af,gd⟩).run P w=.ok (.enter f args) w)
  (h:Calls P f args w fun e w'=>∃v,e=.returned v/\S w'/\wpAnyH P .any ops Q S fuel (listed.setIfInBounds i true) ⟨(ts.set d v).toArray,ds⟩ w'):wpAnyH P .any ops Q S (fuel+1) listed ⟨ts.toArray,ds⟩ w:=by
 refine wpAnyH_all hr (by simp) (fun j hj=>?_)
 obtain rfl:j=i:=by simpa using hj
 unfold wpOp
 rw[hi]
 show if Region.wanted _ (yielded ops ts.toArray)=true then _ else _
 rw[if_pos hw]
 refine .inl ?_
 unfold Oper.wp
 rw[hy,Oper.upon_enter]
 refine h.mono ?_
 rintro e w' ⟨v,rfl,h1,h2⟩
 refine ⟨h1,?_⟩
 simpa [Act.put] using h2
theorem fV (i:Nat){dst:Option Nat}(hr:Region.ready .any ops listed=[i])(hi:ops[i]?=some ⟨dst,op,ty,pos,af,gd⟩)(hw:Region.wanted ⟨dst,op,ty,pos,af,gd⟩ (yielded ops ts.toArray)=true)
  (h:∀K:Act->World->Prop,(∀a' w',S w'->wpAnyH P .any ops Q S fuel (listed.setIfInBounds i true) a' w'->K a' w')->Oper.wp P ⟨dst,op,ty,pos,af,gd⟩ ⟨ts.toArray,ds⟩ w K Q):wpAnyH P .any ops Q S (fuel+1) listed ⟨ts.toArray,ds⟩ w:=by
 refine wpAnyH_all hr (by simp) (fun j hj=>?_)
 obtain rfl:j=i:=by simpa using hj
 unfold wpOp
 rw[hi]
 show if Region.wanted _ (yielded ops ts.toArray)=true then _ else _
 rw[if_pos hw]
 exact .inl (h _ (fun a' w' h1 h2=>⟨h1,h2⟩))
end
theorem lS (x:Nat)(w:World):Calls prog 96 #[.float .f32 x] w fun e w'=>e=.returned (.int .i64 (cK x))/\w'=w:=by
 unfold cK
 by_cases h:FloatKind.f32.format.order x 0=some .lt
 ·rw[if_pos h]
  have hb:(FloatKind.f32.format.order x 0==some Ordering.lt)=true:=by rw[h];rfl
  go_enter func96,ntmps96
  go_wp2
  go_ret
  exact ⟨rfl,rfl⟩
 ·rw[if_neg h]
  have hb:(FloatKind.f32.format.order x 0==some Ordering.lt)=false:=by
   cases hc:FloatKind.f32.format.order x 0 with
   | none=>rfl
   | some o=>cases o<;>first | rfl | exact absurd hc h
  go_enter func96,ntmps96
  go_wp2
  go_ret
  exact ⟨rfl,rfl⟩
theorem kE (r:Rc)(vi vo:Value)(w:World)(hi:bH w vi r.items)(ho:bL w vo r.outs)(wf:WfR r)(hm:aP r=true)(hni:r.items.length<=1000000)(hno:r.outs.length<=1000000):
  Calls prog 92 #[rv r.kind r.seq r.it r.mks vi vo] w fun e w'=>e=.returned (.string (S (aY r)))/\w.grownBy w' none:=by
 have hl:=(dM r hm).2
 have hz:=aQ (enc r)
 have G0:Hid (w.grownBy (w.alloc (.cells #[.int .i64 r.kind,.int .i64 r.seq,.int .i64 r.it.sh,.int .i64 r.it.nu,.float .f32 r.it.pl,.float .f32 r.it.sp,.int .i64 r.mks.g,.int .i64 r.mks.m,.int .i64 r.mks.s,.int .i64 r.mks.a,.int .i64 r.mks.n,vi,vo] 139)) none):=World.grownBy_alloc w _ none
 have EN:=Hid.mk' (gU r vi vo (w.alloc (.cells #[.int .i64 r.kind,.int .i64 r.seq,.int .i64 r.it.sh,.int .i64 r.it.nu,.float .f32 r.it.pl,.float .f32 r.it.sp,.int .i64 r.mks.g,.int .i64 r.mks.m,.int .i64 r.mks.s,.int .i64 r.mks.a,.int .i64 r.mks.n,vi,vo] 139)) (Lies.grown hi G0.out) (Lies.grown ho G0.out) wf (by omega) (by omega) hm)
 have NB:Hid (aY r=gF 2 ((enc r).length:Int)++enc r):=by
  show aY r=_
  unfold aY
  rw[pG _ (by omega) (by omega)]
 have ha:S (gF 2 ((enc r).length:Int))++S (enc r)=S (aY r):=by rw[NB.out];exact xB _ _
 obtain ⟨n,hn⟩:∃n,(enc r).length=n:=⟨_,rfl⟩
 rw[hn] at hl hz ha
 have o8:(S (gF 2 (n:Int))).size=2:=by rw[aQ];rfl
 have hsf:=aK
 clear hi ho wf hm
 unfold rv at EN ⊢
 go_enter func92,ntmps92
 go_wp2_with fail
 refine Calls.mono EN.out ?_
 rintro e w1 ⟨rfl,g1⟩
 go_wp2_with fail
 refine Calls.mono (dA (n:Int) 2 _ (by omega) (by omega) (by omega)) ?_
 rintro e w2 ⟨rfl,g2⟩
 go_wp2
 go_ret
 exact ⟨rfl,(G0.out.trans g1).trans g2⟩
def iG (l:List It)(x y:Int):Int:=match l.findIdx? (fun i=>decide (i.sh=x/\i.nu=y)) with
 | some k=>(k:Int)
 | none=> -1
theorem oM (l:List It)(x y:Int)(b:Nat)(v:Value)(w:World)(h:w.cell? ⟨b,1,none⟩=some v)(hv:bH w v l)(hl:l.length<=1000):
  Calls prog 100 #[.pointer (some ⟨b,0,none⟩),.agg #[.int .i64 x,.int .i64 y]] w fun e w'=>e=.returned (.int .i64 (iG l x y))/\w.grownBy w' none:=by
 obtain ⟨a,c,rfl,hx⟩:=hv
 have hbl:b<w.heap.size:=World.block_lt_of_cell? w _ h
 obtain ⟨n,hL⟩:∃n,l.length=n:=⟨_,rfl⟩
 rw[hL] at hl hx h
 have HL:Hid (l.length=n):=hL
 have HX:=Hid.mk' hx
 have G0:Hid (w.grownBy (w.alloc (.cells #[.int .i64 x,.int .i64 y] 32)) none):=World.grownBy_alloc w _ none
 have C0:Hid (∀j u,([.int .i64 x,.int .i64 y]:List Value)[j]?=some u->(w.alloc (.cells #[.int .i64 x,.int .i64 y] 32)).cell? ⟨w.heap.size,j,none⟩=some u):=Hid.mk' (At.new w [.int .i64 x,.int .i64 y] 32).c
 clear hL hx
 go_enter func100,ntmps100
 go_wp2
 go_loopw [5] (fun i wr=>∃k:Nat,k<=n/\i=.int .i64 k/\(w.alloc (.cells #[.int .i64 x,.int .i64 y] 32)).grownBy wr none/\(l.take k).findIdx? (fun i=>decide (i.sh=x/\i.nu=y))=none) (fun i _=>n -(intOf i).toNat)
 case atStart=>exact ⟨0,by omega,rfl,aD _ _,rfl⟩
 case round=>
  obtain ⟨k,hk,rfl,gk,hnone⟩:=hrel
  have GK:=Hid.mk' gk
  have HN:=Hid.mk' hnone
  have s1:wr.cell? ⟨b,1,none⟩=some (.slice a n c):=(G0.out.trans gk).cell h (by simp)
  have x0:=gk.cell (C0.out 0 _ rfl) (by simp)
  have x1:=gk.cell (C0.out 1 _ rfl) (by simp)
  clear gk hnone
  by_cases hlt:k<n
  ·have hkl:k<l.length:=by rw[HL.out];exact hlt
   obtain ⟨g,off,rfl,hc⟩:=HX.out (by omega)
   obtain ⟨i,hi⟩:∃i,l[k]=i:=⟨_,rfl⟩
   have d:∀j (hj:j<4) u,i.cells[j]?=some u->wr.cell? ⟨g,off+k * 4+j,none⟩=some u:=fun j hj u hu=>by
    have:=hc (4 * k+j) u (by rw[cQ l k j hkl hj,hi];exact hu)
    rw[show off+(4 * k+j)=off+k * 4+j by omega] at this
    exact (G0.out.trans GK.out).cell this (by simp)
   have d0:=d 0 (by omega) _ rfl
   have d1:=d 1 (by omega) _ rfl
   clear d hc
   rw[Nat.add_zero] at d0
   have HI:=Hid.mk' hi
   clear hi
   have y0:(0:Int)<=(k:Int):=by omega
   have y1:(k:Int)<(n:Int):=by omega
   have tk:Hid (l.take (k+1)=l.take k++[i]):=by
    show _=_
    rw[List.take_succ_eq_append_getElem hkl,HI.out]
   by_cases e1:i.sh=x
   ·by_cases e2:i.nu=y
    ·subst e1 e2
     go_wp2_with fail
     go_quiet (fail)
     go_wp2
     go_ret
     refine ⟨?_,G0.out.trans (aL GK.out nq)⟩
     have e:iG l i.sh i.nu=(k:Int):=by
      unfold iG
      have:l.findIdx? (fun j=>decide (j.sh=i.sh/\j.nu=i.nu))=some k:=by
       rw[List.findIdx?_eq_some_iff_getElem]
       refine ⟨hkl,by rw[HI.out];simp,fun j hj=>?_⟩
       have hn:=HN.out
       rw[List.findIdx?_eq_none_iff] at hn
       have:=hn l[j] (List.mem_take_iff_getElem.2 ⟨j,by omega,rfl⟩)
       simpa using this
      rw[this]
     rw[e]
     rfl
    ·have e2':(i.nu==y)=false:=by simpa using e2
     subst e1
     go_wp2_with fail
     go_quiet (fail)
     go_wp2
     refine ⟨⟨k+1,by omega,by go_num,aL GK.out nq,?_⟩,by simp[intOf];omega⟩
     rw[tk.out,List.findIdx?_append,HN.out]
     simp[e2]
   ·have e1':(i.sh==x)=false:=by simpa using e1
    go_wp2_with fail
    go_quiet (fail)
    go_wp2
    refine ⟨⟨k+1,by omega,by go_num,aL GK.out nq,?_⟩,by simp[intOf];omega⟩
    rw[tk.out,List.findIdx?_append,HN.out]
    simp[e1]
  ·go_wp2
   go_ret
   refine ⟨?_,G0.out.trans GK.out⟩
   have:l.take k=l:=List.take_of_length_le (by rw[HL.out];omega)
   have hn:=HN.out
   rw[this] at hn
   unfold iG
   rw[hn]
   rfl
section
variable {P : Program} {ops : Array Oper} {Q : Exit -> Act -> World -> Prop} {S : World -> Prop} {fuel d ty ty' : Nat} {listed : Array Bool} {ts : List Value} {ds : List Deferred} {w : World} {op op' : Op} {pos pos' : String} {af af' : Array Edge} {gd gd' : Option (Nat × Bool)}
theorem qP (i j:Nat){f:Nat}{args:Array Value}{dst:Option Nat}(hr:Region.ready .any ops listed=[i,j])(hi:ops[i]?=some ⟨some d,op,ty,pos,af,gd⟩)(hw:Region.wanted ⟨some d,op,ty,pos,af,gd⟩ (yielded ops ts.toArray)=true)
  (hy:(execOp (Act.eval ⟨ts.toArray,ds⟩) ⟨some d,op,ty,pos,af,gd⟩).run P w=.ok (.enter f args) w)
  (hj:ops[j]?=some ⟨dst,op',ty',pos',af',gd'⟩) (hw':Region.wanted ⟨dst,op',ty',pos',af',gd'⟩ (yielded ops ts.toArray)=true)
  (h:Calls P f args w fun e w'=>∃v,e=.returned v/\S w'/\wpAnyH P .any ops Q S fuel (listed.setIfInBounds i true) ⟨(ts.set d v).toArray,ds⟩ w')
  (h':∀K:Act->World->Prop,(∀a' w',S w'->wpAnyH P .any ops Q S fuel (listed.setIfInBounds j true) a' w'->K a' w')->Oper.wp P ⟨dst,op',ty',pos',af',gd'⟩ ⟨ts.toArray,ds⟩ w K Q):wpAnyH P .any ops Q S (fuel+1) listed ⟨ts.toArray,ds⟩ w:=by
 refine wpAnyH_all hr (by simp) (fun q hq=>?_)
 rcases (by simpa using hq:q=i∨q=j) with rfl | rfl
 ·unfold wpOp
  rw[hi]
  show if Region.wanted _ (yielded ops ts.toArray)=true then _ else _
  rw[if_pos hw]
  refine .inl ?_
  unfold Oper.wp
  rw[hy,Oper.upon_enter]
  refine h.mono ?_
  rintro e w' ⟨v,rfl,h1,h2⟩
  refine ⟨h1,?_⟩
  simpa [Act.put] using h2
 ·unfold wpOp
  rw[hj]
  show if Region.wanted _ (yielded ops ts.toArray)=true then _ else _
  rw[if_pos hw']
  exact .inl (h' _ (fun a' w' h1 h2=>⟨h1,h2⟩))
end
section
variable {P : Program} {ops : Array Oper} {Q : Exit -> Act -> World -> Prop} {S : World -> Prop} {fuel d ty : Nat} {listed : Array Bool} {ts : List Value} {ds : List Deferred} {w : World} {op : Op} {pos : String} {af : Array Edge} {gd : Option (Nat × Bool)}
theorem aFA (i:Nat){dst:Option Nat}(hi:ops[i]?=some ⟨dst,op,ty,pos,af,gd⟩)(hw:Region.wanted ⟨dst,op,ty,pos,af,gd⟩ (yielded ops ts.toArray)=true)
  (h:∀K:Act->World->Prop,(∀a' w',S w'->wpAnyH P .any ops Q S fuel (listed.setIfInBounds i true) a' w'->K a' w')->Oper.wp P ⟨dst,op,ty,pos,af,gd⟩ ⟨ts.toArray,ds⟩ w K Q):wpOp P ops Q i (fun a' w'=>S w'/\wpAnyH P .any ops Q S fuel (listed.setIfInBounds i true) a' w') ⟨ts.toArray,ds⟩ w:=by
 unfold wpOp
 rw[hi]
 show if Region.wanted _ (yielded ops ts.toArray)=true then _ else _
 rw[if_pos hw]
 exact .inl (h _ (fun a' w' h1 h2=>⟨h1,h2⟩))
theorem aJZ (i j:Nat){a:Act}(hr:Region.ready .any ops listed=[i,j])(h1:wpOp P ops Q i (fun a' w'=>S w'/\wpAnyH P .any ops Q S fuel (listed.setIfInBounds i true) a' w') a w)(h2:wpOp P ops Q j (fun a' w'=>S w'/\wpAnyH P .any ops Q S fuel (listed.setIfInBounds j true) a' w') a w):wpAnyH P .any ops Q S (fuel+1) listed a w:=by
 refine wpAnyH_all hr (by simp) (fun q hq=>?_)
 rcases (by simpa using hq:q=i∨q=j) with rfl | rfl
 ·exact h1
 ·exact h2
end
end Go.Proofs.YtammnaafdhhjaaaGreat
