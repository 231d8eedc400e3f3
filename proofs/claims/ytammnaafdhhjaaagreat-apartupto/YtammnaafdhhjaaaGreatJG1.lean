import Derived.Test.YtammnaafdhhjaaaGreatJC4
import Derived.Test.YtammnaafdhhjaaaGreatJS2
set_option maxHeartbeats 16000000
set_option maxRecDepth 100000
namespace Go.Proofs.YtammnaafdhhjaaaGreat
open Go.RowKit Go.Proofs.Tryz
structure At (w:World)(b:Nat)(vs:List Value):Prop where
 c:∀j u,vs[j]?=some u->w.cell? ⟨b,j,none⟩=some u
 f:∀j,w.frozen? ⟨b,j,none⟩=false
 lt:b<w.heap.size
theorem uZ {w:World}{b o j:Nat}{u v:Value}(h:w.cell? ⟨b,j,none⟩=some u)(hj:j≠o):(w.setCell ⟨b,o,none⟩ v).cell? ⟨b,j,none⟩=some u:=by
 have hne:¬o=j:=fun e=>hj e.symm
 go_simp
theorem At.put {w:World}{b:Nat}{vs:List Value}(h:At w b vs)(k:Nat)(u:Value)(hk:k<vs.length):At (w.setCell ⟨b,k,none⟩ u) b (vs.set k u):=by
 refine ⟨fun j x hx=>?_,fun j=>?_,by simpa using h.lt⟩
 ·by_cases hj:j=k
  ·subst hj
   rw[List.getElem?_set_self hk] at hx
   injection hx with hx
   subst hx
   exact World.cell?_setCell_same' _ _ _ (by rw[h.c j _ (List.getElem?_eq_getElem hk)];rfl)
  ·rw[List.getElem?_set_ne (fun e=>hj e.symm)] at hx
   exact uZ (h.c j x hx) hj
 ·have:=h.f j
  rw[World.frozen?_setCell]
  exact this
theorem At.only {w w':World}{b:Nat}{vs:List Value}{A:Nat->Prop}(h:At w b vs)(o:Only w w' A)(hn:¬A b):At w' b vs:=
 ⟨fun j u hu=>o.cell (h.c j u hu) hn,fun j=>(o.frozen (a:=⟨b,j,none⟩) h.lt hn).trans (h.f j),Nat.lt_of_lt_of_le h.lt o.size⟩
theorem At.grown {w w':World}{b:Nat}{vs:List Value}(h:At w b vs)(g:w.grownBy w' none):At w' b vs:=h.only (Only.grown g) (by simp)
theorem At.drew {w:World}{b:Nat}{vs:List Value}(h:At w b vs):At w.drew b vs:=h.grown (aA (aD _ _))
theorem Only.drew {w w':World}{A:Nat->Prop}(h:Only w w' A):Only w w'.drew A:=
 h.trans ((Only.grown (aA (aD w' none))).mono (by simp))
theorem At.drewN {w:World}{b:Nat}{vs:List Value}(h:At w b vs)(n:Nat):At (w.drewN n) b vs:=h.grown (aL (aD _ _) n)
theorem Only.drewN {w w':World}{A:Nat->Prop}(h:Only w w' A)(n:Nat):Only w (w'.drewN n) A:=
 h.trans ((Only.grown (aL (aD w' none) n)).mono (by simp))
theorem Only.set2 (w:World)(b i j:Nat)(x y:Value):Only w ((w.setCell ⟨b,i,none⟩ x).setCell ⟨b,j,none⟩ y) (fun k=>k=b):=
 (Only.set w b i x).trans ((Only.set _ b j y).mono (fun _ _ h=>.inl h))
structure Dk where
 f0:List UInt8
 l0:Nat
 f1:List UInt8
 l1:Nat
 un:Int
 kp:Int
def Dk.cells (d:Dk):List Value:=[.string (S d.f0),.int .i64 d.l0,.string (S d.f1),.int .i64 d.l1,.int .i64 d.un,.int .i64 d.kp]
structure Dk.Ok (d:Dk):Prop where
 a0:d.l0<=d.f0.length
 a1:d.l1<=d.f1.length
 b0:d.f0.length<=10000
 b1:d.f1.length<=10000
 u:0<=d.un
 u':d.un<=9223372036854775807
def Dk.file (d:Dk)(n:Nat):List UInt8:=if n=0 then d.f0 else d.f1
def Dk.put (d:Dk)(n:Nat)(l:List UInt8)(m:Nat):Dk:=if n=0 then {d with f0:=l,l0:=m} else {d with f1:=l,l1:=m}
def Dk.shorten (d:Dk)(n k:Nat):Dk:=d.put n ((d.file n).take k) k
def cD (l:List UInt8)(m:Nat)(keep:Int):Nat:=m+min keep.toNat (l.length -m)
def Dk.crash (d:Dk)(keep:Int):Dk:=⟨d.f0.take (cD d.f0 d.l0 keep),cD d.f0 d.l0 keep,d.f1.take (cD d.f1 d.l1 keep),cD d.f1 d.l1 keep,0,0⟩
def Dk.act (d:Dk):Dk×Bool:=if d.un=0 then (d,true) else if d.un=1 then (d.crash d.kp,false) else ({d with un:=d.un -1},true)
def Dk.append (d:Dk)(n:Nat)(l:List UInt8):Dk×Bool:=(if n=0 then {d with f0:=d.f0++l} else {d with f1:=d.f1++l}).act
def Dk.sync (d:Dk)(n:Nat):Dk×Bool:=if d.act.2=true then (d.act.1.put n (d.act.1.file n) (d.act.1.file n).length,true) else (d.act.1,false)
def Dk.cut (d:Dk)(n:Nat):Dk×Bool:=if d.act.2=true then (d.act.1.put n [] 0,true) else (d.act.1,false)
theorem kB (b:Nat)(d:Dk)(n k:Nat)(w:World)(h:At w b d.cells)(hn:n<2)(hk:k<=(d.file n).length)(hl:(d.file n).length<=10000):
  Calls prog 88 #[.pointer (some ⟨b,0,none⟩),.int .i64 n,.int .i64 k] w fun e w'=>e=.returned (.tuple #[])/\At w' b (d.shorten n k).cells/\Only w w' (fun j=>j=b):=by
 have H:=Hid.mk' h
 have c0:=h.c 0 _ rfl
 have c1:=h.c 1 _ rfl
 have c2:=h.c 2 _ rfl
 have c3:=h.c 3 _ rfl
 have hf:=h.f
 clear h
 have z0:=aQ d.f0
 have z1:=aQ d.f1
 have hx0:(S d.f0).extract 0 k=S (d.f0.take k):=gN _ _
 have hx1:(S d.f1).extract 0 k=S (d.f1.take k):=gN _ _
 have k0:(0:Int)<=(k:Int):=by omega
 rcases (by omega:n=0∨n=1) with rfl | rfl
 ·have hk':(k:Int)<=(d.f0.length:Int):=by have:=hk;simp[Dk.file] at this;omega
  have hl':d.f0.length<=10000:=hl
  go_enter func88,ntmps88
  go_wp2_with fail
  go_region
  refine bodyPost_end (v:=.tuple #[]) (by simp[results,results88]) rfl ⟨rfl,((H.out.put 0 _ (by simp[Dk.cells])).put 1 _ (by simp[Dk.cells])).drew,(Only.set2 w b 0 1 _ _).drew⟩
 ·have hk':(k:Int)<=(d.f1.length:Int):=by have:=hk;simp[Dk.file] at this;omega
  have hl':d.f1.length<=10000:=hl
  go_enter func88,ntmps88
  go_wp2_with fail
  go_region
  refine bodyPost_end (v:=.tuple #[]) (by simp[results,results88]) rfl ⟨rfl,((H.out.put 2 _ (by simp[Dk.cells])).put 3 _ (by simp[Dk.cells])).drew,(Only.set2 w b 2 3 _ _).drew⟩
theorem mV (b:Nat)(d:Dk)(n k:Nat)(K:Int)(w:World)(e:K=(k:Int))(h:At w b d.cells)(hn:n<2)(hk:k<=(d.file n).length)(hl:(d.file n).length<=10000):
  Calls prog 88 #[.pointer (some ⟨b,0,none⟩),.int .i64 n,.int .i64 K] w fun e w'=>e=.returned (.tuple #[])/\At w' b (d.shorten n k).cells/\Only w w' (fun j=>j=b):=by
 rw[e]
 exact kB b d n k w h hn hk hl
theorem pS (b:Nat)(d:Dk)(k keep:Int)(w:World)(h:At w b d.cells):
  Calls prog 120 #[.pointer (some ⟨b,0,none⟩),.int .i64 k,.int .i64 keep] w fun e w'=>e=.returned (.tuple #[])/\At w' b ({d with un:=k,kp:=keep}:Dk).cells/\Only w w' (fun j=>j=b):=by
 have H:=Hid.mk' h
 have c4:=h.c 4 _ rfl
 have c5:=h.c 5 _ rfl
 have hf:=h.f
 clear h
 go_enter func120,ntmps120
 go_wp2
 refine bodyPost_end (v:=.tuple #[]) (by simp[results,results120]) rfl ⟨rfl,(H.out.put 4 _ (by simp[Dk.cells])).put 5 _ (by simp[Dk.cells]),Only.set2 w b 4 5 _ _⟩
theorem eI (b:Nat)(d:Dk)(n:Nat)(w:World)(h:At w b d.cells)(hn:n<2):
  Calls prog 86 #[.pointer (some ⟨b,0,none⟩),.int .i64 n] w fun e w'=>e=.returned (.string (S (d.file n)))/\w'=w:=by
 have c0:=h.c 0 _ rfl
 have c2:=h.c 2 _ rfl
 clear h
 rcases (by omega:n=0∨n=1) with rfl | rfl
 ·go_enter func86,ntmps86
  go_wp2
  go_ret
  exact ⟨rfl,rfl⟩
 ·go_enter func86,ntmps86
  go_wp2
  go_ret
  exact ⟨rfl,rfl⟩
theorem qL (l:List UInt8)(m:Nat)(keep:Int)(h:m<=l.length):cD l m keep<=l.length:=by unfold cD;omega
theorem pT (b:Nat)(d:Dk)(keep:Int)(w:World)(h:At w b d.cells)(ok:d.Ok):
  Calls prog 90 #[.pointer (some ⟨b,0,none⟩),.int .i64 keep] w fun e w'=>e=.returned (.tuple #[])/\At w' b (d.crash keep).cells/\Only w w' (fun j=>j=b):=by
 have H:=Hid.mk' h
 have c0:=h.c 0 _ rfl
 have c1:=h.c 1 _ rfl
 have hf:=h.f
 clear h
 have z0:=aQ d.f0
 have z1:=aQ d.f1
 obtain ⟨a0,a1,b0,b1,_,_⟩:=ok
 have y0:=qL d.f0 d.l0 keep a0
 have y1:=qL d.f1 d.l1 keep a1
 go_enter func90,ntmps90
 go_wp2_with fail
 go_loopw [7] (fun t wr=>∃q:Nat,q<=2/\t=.int .i64 q/\At wr b (if q=0 then d else if q=1 then d.shorten 0 (cD d.f0 d.l0 keep) else (d.shorten 0 (cD d.f0 d.l0 keep)).shorten 1 (cD d.f1 d.l1 keep)).cells/\Only w wr (fun j=>j=b)) (fun t _=>2 -(intOf t).toNat)
 case atStart=>exact ⟨0,by omega,rfl,H.out,Only.refl _ _⟩
 case round=>
  clear H c0 c1 hf
  obtain ⟨q,hq,rfl,hat,ho⟩:=hrel
  rcases (by omega:q=0∨q=1∨q=2) with rfl | rfl | rfl
  ·have h':At wr b d.cells:=hat
   clear hat
   have H:=Hid.mk' h'
   have HO:=Hid.mk' ho
   have c0:=h'.c 0 _ rfl
   have c1:=h'.c 1 _ rfl
   clear h' ho
   go_wp2_with fail
   go_quiet (fail)
   go_wp2_with fail
   all_goals
    refine Calls.mono (mV b (d) 0 (cD d.f0 d.l0 keep) _ _ (by unfold cD;omega) (H.out.drewN nq) (by omega) y0 b0) ?_
    rintro e w1 ⟨rfl,h1,o1⟩
    go_wp2
    exact ⟨⟨1,by omega,by go_num,h1,(HO.out.drewN nq).trans (o1.mono (fun _ _ e=>.inl e))⟩,by simp[intOf]⟩
  ·have h':At wr b (d.shorten 0 (cD d.f0 d.l0 keep)).cells:=hat
   clear hat
   have H:=Hid.mk' h'
   have HO:=Hid.mk' ho
   have c0:wr.cell? ⟨b,2,none⟩=some (.string (S d.f1)):=h'.c 2 _ rfl
   have c1:wr.cell? ⟨b,3,none⟩=some (.int .i64 d.l1):=h'.c 3 _ rfl
   clear h' ho
   go_wp2_with fail
   go_quiet (fail)
   go_wp2_with fail
   all_goals
    refine Calls.mono (mV b (d.shorten 0 (cD d.f0 d.l0 keep)) 1 (cD d.f1 d.l1 keep) _ _ (by unfold cD;omega) (H.out.drewN nq) (by omega) y1 b1) ?_
    rintro e w1 ⟨rfl,h1,o1⟩
    go_wp2
    exact ⟨⟨2,by omega,by go_num,h1,(HO.out.drewN nq).trans (o1.mono (fun _ _ e=>.inl e))⟩,by simp[intOf]⟩
  ·have h':At wr b ((d.shorten 0 (cD d.f0 d.l0 keep)).shorten 1 (cD d.f1 d.l1 keep)).cells:=hat
   clear hat
   have H:=Hid.mk' h'
   have HO:=Hid.mk' ho
   clear h' ho
   go_wp2_with fail
   refine Calls.mono (pS b ((d.shorten 0 (cD d.f0 d.l0 keep)).shorten 1 (cD d.f1 d.l1 keep)) 0 0 _ H.out) ?_
   rintro e w1 ⟨rfl,h1,o1⟩
   go_wp2
   refine bodyPost_end (v:=.tuple #[]) (by simp[results,results90]) rfl ⟨rfl,h1,HO.out.trans (o1.mono (fun _ _ e=>.inl e))⟩
theorem Dk.Ok.crash {d:Dk}(ok:d.Ok)(keep:Int):(d.crash keep).Ok:=by
 have y0:=qL d.f0 d.l0 keep ok.a0
 have y1:=qL d.f1 d.l1 keep ok.a1
 have:=ok.b0
 have:=ok.b1
 exact ⟨by simp[Dk.crash];omega,by simp[Dk.crash];omega,by simp[Dk.crash];omega,by simp[Dk.crash];omega,Int.le_refl _,by simp[Dk.crash]⟩
theorem Dk.Ok.act {d:Dk}(ok:d.Ok):d.act.1.Ok:=by
 unfold Dk.act
 split
 ·exact ok
 ·split
  ·exact ok.crash _
  ·have h1:=ok.u
   have h2:=ok.u'
   exact ⟨ok.a0,ok.a1,ok.b0,ok.b1,by show 0<=d.un -1;omega,by show d.un -1<=_;omega⟩
theorem mJ (b:Nat)(d:Dk)(w:World)(h:At w b d.cells)(ok:d.Ok):
  Calls prog 159 #[.pointer (some ⟨b,0,none⟩)] w fun e w'=>e=.returned (.bool d.act.2)/\At w' b d.act.1.cells/\Only w w' (fun j=>j=b):=by
 have H:=Hid.mk' h
 have c4:=h.c 4 _ rfl
 have c5:=h.c 5 _ rfl
 have hf:=h.f
 have u0:=ok.u
 have u1:=ok.u'
 have OK:=Hid.mk' ok
 clear h ok
 by_cases h0:d.un=0
 ·have e:d.act=(d,true):=by unfold Dk.act;rw[if_pos h0]
  rw[e]
  rw[h0] at c4
  go_enter func159,ntmps159
  go_wp2
  go_ret
  exact ⟨rfl,H.out,Only.refl _ _⟩
 ·have d0:(d.un==0)=false:=by simp[h0]
  by_cases h1:d.un=1
  ·have e:d.act=(d.crash d.kp,false):=by unfold Dk.act;rw[if_neg h0,if_pos h1]
   rw[e]
   have H1:Hid (At (w.setCell ⟨b,4,none⟩ (.int .i64 0)) b ({d with un:=0}:Dk).cells):=H.out.put 4 _ (by simp[Dk.cells])
   have OK1:Hid (({d with un:=0}:Dk).Ok):=⟨OK.out.a0,OK.out.a1,OK.out.b0,OK.out.b1,Int.le_refl _,by show (0:Int)<=9223372036854775807;omega⟩
   rw[h1] at c4
   go_enter func159,ntmps159
   go_wp2_with fail
   refine Calls.mono (pT b {d with un:=0} d.kp _ H1.out OK1.out) ?_
   rintro e w1 ⟨rfl,h1,o1⟩
   go_wp2
   go_ret
   exact ⟨rfl,h1,(Only.set w b 4 _).trans (o1.mono (fun _ _ e=>.inl e))⟩
  ·have e:d.act=({d with un:=d.un -1},true):=by unfold Dk.act;rw[if_neg h0,if_neg h1]
   rw[e]
   have hp:(0:Int)<d.un -1:=by omega
   have H1:Hid (At (w.setCell ⟨b,4,none⟩ (.int .i64 (d.un -1))) b ({d with un:=d.un -1}:Dk).cells):=H.out.put 4 _ (by simp[Dk.cells])
   go_enter func159,ntmps159
   go_wp2
   go_ret
   exact ⟨rfl,H1.out,Only.set w b 4 _⟩
theorem Dk.Ok.append {d:Dk}(ok:d.Ok)(n:Nat)(l:List UInt8)(hl:(d.file n).length+l.length<=10000):(if n=0 then {d with f0:=d.f0++l} else {d with f1:=d.f1++l}:Dk).Ok:=by
 have h0:=ok.a0
 have h1:=ok.a1
 unfold Dk.file at hl
 split
 ·rename_i hn
  rw[if_pos hn] at hl
  exact ⟨by simp;omega,ok.a1,by simp;omega,ok.b1,ok.u,ok.u'⟩
 ·rename_i hn
  rw[if_neg hn] at hl
  exact ⟨ok.a0,by simp;omega,ok.b0,by simp;omega,ok.u,ok.u'⟩
theorem xB (a b:List UInt8):S a++S b=S (a++b):=by
 apply ByteArray.ext
 apply Array.toList_inj.1
 simp[S]
theorem eY (b:Nat)(d:Dk)(n:Nat)(l:List UInt8)(w:World)(h:At w b d.cells)(ok:d.Ok)(hn:n<2)(hl:(d.file n).length+l.length<=10000):
  Calls prog 124 #[.pointer (some ⟨b,0,none⟩),.int .i64 n,.string (S l)] w fun e w'=>e=.returned (.bool (d.append n l).2)/\At w' b (d.append n l).1.cells/\Only w w' (fun j=>j=b):=by
 have H:=Hid.mk' h
 have c0:=h.c 0 _ rfl
 have c2:=h.c 2 _ rfl
 have hf:=h.f
 have OK:=Hid.mk' (ok.append n l hl)
 clear h ok
 have z0:=aQ d.f0
 have z1:=aQ d.f1
 have zl:=aQ l
 have hx0:=xB d.f0 l
 have hx1:=xB d.f1 l
 unfold Dk.append
 rcases (by omega:n=0∨n=1) with rfl | rfl
 ·have hl':d.f0.length+l.length<=10000:=hl
  have H1:Hid (At (w.setCell ⟨b,0,none⟩ (.string (S (d.f0++l)))) b ({d with f0:=d.f0++l}:Dk).cells):=H.out.put 0 _ (by simp[Dk.cells])
  have OK1:Hid (({d with f0:=d.f0++l}:Dk).Ok):=OK.out
  go_enter func124,ntmps124
  go_wp2_with fail
  go_region
  all_goals
   go_wp2_with fail
   refine Calls.mono (mJ b {d with f0:=d.f0++l} _ H1.out.drew OK1.out) ?_
   rintro e w1 ⟨rfl,h1,o1⟩
   go_wp2
   go_ret
   exact ⟨rfl,h1,(Only.set w b 0 _).drew.trans (o1.mono (fun _ _ e=>.inl e))⟩
 ·have hl':d.f1.length+l.length<=10000:=hl
  have H1:Hid (At (w.setCell ⟨b,2,none⟩ (.string (S (d.f1++l)))) b ({d with f1:=d.f1++l}:Dk).cells):=H.out.put 2 _ (by simp[Dk.cells])
  have OK1:Hid (({d with f1:=d.f1++l}:Dk).Ok):=OK.out
  go_enter func124,ntmps124
  go_wp2_with fail
  go_region
  all_goals
   go_wp2_with fail
   refine Calls.mono (mJ b {d with f1:=d.f1++l} _ H1.out.drew OK1.out) ?_
   rintro e w1 ⟨rfl,h1,o1⟩
   go_wp2
   go_ret
   exact ⟨rfl,h1,(Only.set w b 2 _).drew.trans (o1.mono (fun _ _ e=>.inl e))⟩
theorem kS (b:Nat)(d:Dk)(n:Nat)(w:World)(h:At w b d.cells)(ok:d.Ok)(hn:n<2):
  Calls prog 125 #[.pointer (some ⟨b,0,none⟩),.int .i64 n] w fun e w'=>e=.returned (.bool (d.sync n).2)/\At w' b (d.sync n).1.cells/\Only w w' (fun j=>j=b):=by
 have H:=Hid.mk' h
 have OK:=Hid.mk' ok
 have OK1:=ok.act
 clear h ok
 have b0:=OK1.b0
 have b1:=OK1.b1
 clear OK1
 have A:=Hid.mk' (mJ b d w H.out OK.out)
 unfold Dk.sync
 obtain ⟨⟨d1,ok1⟩,hd⟩:∃p,d.act=p:=⟨_,rfl⟩
 rw[hd] at A b0 b1 ⊢
 simp only at A b0 b1 ⊢
 clear H hd
 have z0:=aQ d1.f0
 have z1:=aQ d1.f1
 cases ok1
 ·go_enter func125,ntmps125
  go_wp2_with fail
  refine Calls.mono A.out ?_
  rintro e w1 ⟨rfl,h1,o1⟩
  go_wp2
  go_ret
  exact ⟨rfl,h1,o1⟩
 ·rcases (by omega:n=0∨n=1) with rfl | rfl
  ·go_enter func125,ntmps125
   go_wp2_with fail
   refine Calls.mono A.out ?_
   rintro e w1 ⟨rfl,h1,o1⟩
   have H1:=Hid.mk' h1
   have O1:=Hid.mk' o1
   have c0:=h1.c 0 _ rfl
   have c1:=h1.c 1 _ rfl
   have hf:=h1.f
   clear h1 o1
   go_wp2_with fail
   go_region
   all_goals
    go_wp2
    go_ret
    exact ⟨rfl,(H1.out.put 1 _ (by simp[Dk.cells])).drew,(O1.out.trans ((Only.set _ b 1 _).mono (fun _ _ e=>.inl e))).drew⟩
  ·go_enter func125,ntmps125
   go_wp2_with fail
   refine Calls.mono A.out ?_
   rintro e w1 ⟨rfl,h1,o1⟩
   have H1:=Hid.mk' h1
   have O1:=Hid.mk' o1
   have c2:=h1.c 2 _ rfl
   have c3:=h1.c 3 _ rfl
   have hf:=h1.f
   clear h1 o1
   go_wp2_with fail
   go_region
   all_goals
    go_wp2
    go_ret
    exact ⟨rfl,(H1.out.put 3 _ (by simp[Dk.cells])).drew,(O1.out.trans ((Only.set _ b 3 _).mono (fun _ _ e=>.inl e))).drew⟩
theorem mK (b:Nat)(d:Dk)(n:Nat)(w:World)(h:At w b d.cells)(ok:d.Ok)(hn:n<2):
  Calls prog 123 #[.pointer (some ⟨b,0,none⟩),.int .i64 n] w fun e w'=>e=.returned (.bool (d.cut n).2)/\At w' b (d.cut n).1.cells/\Only w w' (fun j=>j=b):=by
 have A:=Hid.mk' (mJ b d w h ok)
 clear h ok
 unfold Dk.cut
 obtain ⟨⟨d1,ok1⟩,hd⟩:∃p,d.act=p:=⟨_,rfl⟩
 rw[hd] at A ⊢
 simp only at A ⊢
 clear hd
 have hS:(⟨#[]⟩:ByteArray)=S []:=rfl
 cases ok1
 ·go_enter func123,ntmps123
  go_wp2_with fail
  refine Calls.mono A.out ?_
  rintro e w1 ⟨rfl,h1,o1⟩
  go_wp2
  go_ret
  exact ⟨rfl,h1,o1⟩
 ·rcases (by omega:n=0∨n=1) with rfl | rfl
  ·go_enter func123,ntmps123
   go_wp2_with fail
   refine Calls.mono A.out ?_
   rintro e w1 ⟨rfl,h1,o1⟩
   have H1:=Hid.mk' h1
   have O1:=Hid.mk' o1
   have c0:=h1.c 0 _ rfl
   have c1:=h1.c 1 _ rfl
   have hf:=h1.f
   clear h1 o1
   go_wp2
   go_ret
   exact ⟨rfl,(H1.out.put 0 (.string (S [])) (by simp[Dk.cells])).put 1 (.int .i64 0) (by simp[Dk.cells]),O1.out.trans ((Only.set2 _ b 0 1 _ _).mono (fun _ _ e=>.inl e))⟩
  ·go_enter func123,ntmps123
   go_wp2_with fail
   refine Calls.mono A.out ?_
   rintro e w1 ⟨rfl,h1,o1⟩
   have H1:=Hid.mk' h1
   have O1:=Hid.mk' o1
   have c2:=h1.c 2 _ rfl
   have c3:=h1.c 3 _ rfl
   have hf:=h1.f
   clear h1 o1
   go_wp2
   go_ret
   exact ⟨rfl,(H1.out.put 2 (.string (S [])) (by simp[Dk.cells])).put 3 (.int .i64 0) (by simp[Dk.cells]),O1.out.trans ((Only.set2 _ b 2 3 _ _).mono (fun _ _ e=>.inl e))⟩
theorem At.new (w:World)(vs:List Value)(t:TypeId):At (w.alloc (.cells vs.toArray t)) w.heap.size vs:=
 ⟨fun j u hu=>by
  rw[cell_of_row _ w.heap.size j vs.toArray t (0,0) (heap_alloc_new w _)]
  simpa using hu,fun j=>by go_simp,by simp⟩
theorem aCA (l:List UInt8)(w:World):
  Calls prog 133 #[.string (S l)] w fun e w'=>∃b,e=.returned (.pointer (some ⟨b,0,none⟩))/\w.heap.size<=b/\At w' b (⟨l,l.length,[],0,0,0⟩:Dk).cells/\w.grownBy w' none:=by
 have zl:=aQ l
 go_enter func133,ntmps133
 go_wp2_with fail
 go_ret
 exact ⟨_,rfl,Nat.le_refl _,At.new w (⟨l,l.length,[],0,0,0⟩:Dk).cells _,World.grownBy_alloc _ _ _⟩
structure Rs where
 up:Bool
 d:Dk
 ct:Nat
def Rs.cells (r:Rs):List Value:=[.bool r.up,.string (S r.d.f0),.string (S r.d.f1),.int .i64 r.d.l0,.int .i64 r.d.l1,.int .i64 r.ct,.int .i64 r.d.un,.int .i64 r.d.kp]
def Rs.lost (r:Rs)(keep:Int):Rs:=⟨false,{r.d.crash keep with kp:=r.d.kp},r.ct⟩
def Rs.mid (r:Rs)(keep:Int)(q:Nat):Rs:=
 if q=0 then ⟨false,{r.d with un:=0},r.ct⟩
 else if q=1 then ⟨false,{r.d with un:=0,f0:=r.d.f0.take (cD r.d.f0 r.d.l0 keep),l0:=cD r.d.f0 r.d.l0 keep},r.ct⟩
 else r.lost keep
theorem fN (b:Nat)(r:Rs)(keep:Int)(w:World)(h:At w b r.cells)(ok:r.d.Ok)(hk:-9223372036854775808<=keep/\keep<=9223372036854775807):
  Calls prog 102 #[.pointer (some ⟨b,0,none⟩),.int .i64 keep] w fun e w'=>e=.returned (.tuple #[])/\At w' b (r.lost keep).cells/\Only w w' (fun j=>j=b):=by
 have H:Hid (At ((w.setCell ⟨b,0,none⟩ (.bool false)).setCell ⟨b,6,none⟩ (.int .i64 0)) b (r.mid keep 0).cells):=(h.put 0 _ (by simp[Rs.cells])).put 6 _ (by simp[Rs.cells])
 have c0:=h.c 0 _ rfl
 have c6:=h.c 6 _ rfl
 have hf:=h.f
 clear h
 have z0:=aQ r.d.f0
 have z1:=aQ r.d.f1
 obtain ⟨a0,a1,b0,b1,_,_⟩:=ok
 obtain ⟨k1,k2⟩:=hk
 go_enter func102,ntmps102
 go_wp2_with fail
 go_loopw [4] (fun t wr=>∃q:Nat,q<=2/\t=.int .i64 q/\At wr b (r.mid keep q).cells/\Only w wr (fun j=>j=b)) (fun t _=>2 -(intOf t).toNat)
 case atStart=>exact ⟨0,by omega,rfl,H.out,Only.set2 w b 0 6 _ _⟩
 case round=>
  clear H c0 c6 hf
  obtain ⟨q,hq,rfl,hat,ho⟩:=hrel
  have HO:=Hid.mk' ho
  clear ho
  rcases (by omega:q=0∨q=1∨q=2) with rfl | rfl | rfl
  ·have H:=Hid.mk' hat
   have cf:wr.cell? ⟨b,1,none⟩=some (.string (S r.d.f0)):=hat.c 1 _ rfl
   have cl:wr.cell? ⟨b,3,none⟩=some (.int .i64 r.d.l0):=hat.c 3 _ rfl
   have hf:=hat.f
   clear hat
   by_cases hA:keep<(r.d.f0.length:Int) -(r.d.l0:Int)
   ·by_cases hB:0<keep
    ·obtain ⟨K,rfl⟩:∃K:Nat,keep=(K:Int):=⟨keep.toNat,by omega⟩
     have hl:cD r.d.f0 r.d.l0 (K:Int)=r.d.l0+K:=by unfold cD;omega
     have hx:(S r.d.f0).extract 0 (r.d.l0+K)=S (r.d.f0.take (cD r.d.f0 r.d.l0 (K:Int))):=by rw[hl];exact gN _ _
     have hL:Hid ((r.d.l0:Int)+(K:Int)=((cD r.d.f0 r.d.l0 (K:Int):Nat):Int)):=by show _=_;rw[hl];omega
     clear hl
     go_wp2_with fail
     go_region
     all_goals
      go_wp2
      refine ⟨⟨1,by omega,by go_num,?_,?_⟩,by simp[intOf]⟩
      ·rw[hL.out];exact (H.out.put 1 _ (by simp[Rs.cells])).drew.put 3 _ (by simp[Rs.cells])
      ·exact (HO.out.trans ((Only.set _ b 1 _).mono (fun _ _ e=>.inl e))).drew.trans ((Only.set _ b 3 _).mono (fun _ _ e=>.inl e))
    ·have hl:cD r.d.f0 r.d.l0 keep=r.d.l0:=by unfold cD;omega
     have hx:(S r.d.f0).extract 0 r.d.l0=S (r.d.f0.take (cD r.d.f0 r.d.l0 keep)):=by rw[hl];exact gN _ _
     have hL:Hid ((r.d.l0:Int)=((cD r.d.f0 r.d.l0 keep:Nat):Int)):=by show _=_;rw[hl]
     clear hl
     go_wp2_with fail
     go_region
     all_goals
      go_wp2
      refine ⟨⟨1,by omega,by go_num,?_,?_⟩,by simp[intOf]⟩
      ·rw[hL.out];exact (H.out.put 1 _ (by simp[Rs.cells])).drew.put 3 _ (by simp[Rs.cells])
      ·exact (HO.out.trans ((Only.set _ b 1 _).mono (fun _ _ e=>.inl e))).drew.trans ((Only.set _ b 3 _).mono (fun _ _ e=>.inl e))
   ·have hl:cD r.d.f0 r.d.l0 keep=r.d.f0.length:=by unfold cD;omega
    have hx:(S r.d.f0).extract 0 r.d.f0.length=S (r.d.f0.take (cD r.d.f0 r.d.l0 keep)):=by rw[hl];exact gN _ _
    have hL:Hid ((r.d.f0.length:Int)=((cD r.d.f0 r.d.l0 keep:Nat):Int)):=by show _=_;rw[hl]
    clear hl
    go_wp2_with fail
    go_region
    all_goals
     go_wp2
     refine ⟨⟨1,by omega,by go_num,?_,?_⟩,by simp[intOf]⟩
     ·rw[hL.out];exact (H.out.put 1 _ (by simp[Rs.cells])).drew.put 3 _ (by simp[Rs.cells])
     ·exact (HO.out.trans ((Only.set _ b 1 _).mono (fun _ _ e=>.inl e))).drew.trans ((Only.set _ b 3 _).mono (fun _ _ e=>.inl e))
  ·have H:=Hid.mk' hat
   have cf:wr.cell? ⟨b,2,none⟩=some (.string (S r.d.f1)):=hat.c 2 _ rfl
   have cl:wr.cell? ⟨b,4,none⟩=some (.int .i64 r.d.l1):=hat.c 4 _ rfl
   have hf:=hat.f
   clear hat
   by_cases hA:keep<(r.d.f1.length:Int) -(r.d.l1:Int)
   ·by_cases hB:0<keep
    ·obtain ⟨K,rfl⟩:∃K:Nat,keep=(K:Int):=⟨keep.toNat,by omega⟩
     have hl:cD r.d.f1 r.d.l1 (K:Int)=r.d.l1+K:=by unfold cD;omega
     have hx:(S r.d.f1).extract 0 (r.d.l1+K)=S (r.d.f1.take (cD r.d.f1 r.d.l1 (K:Int))):=by rw[hl];exact gN _ _
     have hL:Hid ((r.d.l1:Int)+(K:Int)=((cD r.d.f1 r.d.l1 (K:Int):Nat):Int)):=by show _=_;rw[hl];omega
     clear hl
     go_wp2_with fail
     go_region
     all_goals
      go_wp2
      refine ⟨⟨2,by omega,by go_num,?_,?_⟩,by simp[intOf]⟩
      ·rw[hL.out];exact (H.out.put 2 _ (by simp[Rs.cells])).drew.put 4 _ (by simp[Rs.cells])
      ·exact (HO.out.trans ((Only.set _ b 2 _).mono (fun _ _ e=>.inl e))).drew.trans ((Only.set _ b 4 _).mono (fun _ _ e=>.inl e))
    ·have hl:cD r.d.f1 r.d.l1 keep=r.d.l1:=by unfold cD;omega
     have hx:(S r.d.f1).extract 0 r.d.l1=S (r.d.f1.take (cD r.d.f1 r.d.l1 keep)):=by rw[hl];exact gN _ _
     have hL:Hid ((r.d.l1:Int)=((cD r.d.f1 r.d.l1 keep:Nat):Int)):=by show _=_;rw[hl]
     clear hl
     go_wp2_with fail
     go_region
     all_goals
      go_wp2
      refine ⟨⟨2,by omega,by go_num,?_,?_⟩,by simp[intOf]⟩
      ·rw[hL.out];exact (H.out.put 2 _ (by simp[Rs.cells])).drew.put 4 _ (by simp[Rs.cells])
      ·exact (HO.out.trans ((Only.set _ b 2 _).mono (fun _ _ e=>.inl e))).drew.trans ((Only.set _ b 4 _).mono (fun _ _ e=>.inl e))
   ·have hl:cD r.d.f1 r.d.l1 keep=r.d.f1.length:=by unfold cD;omega
    have hx:(S r.d.f1).extract 0 r.d.f1.length=S (r.d.f1.take (cD r.d.f1 r.d.l1 keep)):=by rw[hl];exact gN _ _
    have hL:Hid ((r.d.f1.length:Int)=((cD r.d.f1 r.d.l1 keep:Nat):Int)):=by show _=_;rw[hl]
    clear hl
    go_wp2_with fail
    go_region
    all_goals
     go_wp2
     refine ⟨⟨2,by omega,by go_num,?_,?_⟩,by simp[intOf]⟩
     ·rw[hL.out];exact (H.out.put 2 _ (by simp[Rs.cells])).drew.put 4 _ (by simp[Rs.cells])
     ·exact (HO.out.trans ((Only.set _ b 2 _).mono (fun _ _ e=>.inl e))).drew.trans ((Only.set _ b 4 _).mono (fun _ _ e=>.inl e))
  ·have H:=Hid.mk' hat
   clear hat
   go_wp2
   refine bodyPost_end (v:=.tuple #[]) (by simp[results,results102]) rfl ⟨rfl,H.out,HO.out⟩
def Rs.put (r:Rs)(a:Dk×Bool):Rs×Bool:=if a.2=true then (⟨r.up,a.1,r.ct⟩,true) else (⟨false,{a.1 with kp:=r.d.kp},r.ct⟩,false)
theorem aCB (b:Nat)(r:Rs)(l:List UInt8)(w:World)(h:At w b r.cells)(ok:r.d.Ok)(kb:-9223372036854775808<=r.d.kp/\r.d.kp<=9223372036854775807)(hl:r.d.f0.length+l.length<=10000):
  Calls prog 101 #[.pointer (some ⟨b,0,none⟩),.int .i64 1,.int .i64 0,.string (S l)] w fun e w'=>e=.returned (.bool (r.put (r.d.append 0 l)).2)/\At w' b (r.put (r.d.append 0 l)).1.cells/\Only w w' (fun j=>j=b):=by
 have H:=Hid.mk' h
 have c0:=h.c 0 _ rfl
 have c1:w.cell? ⟨b,1,none⟩=some (.string (S r.d.f0)):=h.c 1 _ rfl
 have c3:w.cell? ⟨b,3,none⟩=some (.int .i64 r.d.l0):=h.c 3 _ rfl
 have c6:=h.c 6 _ rfl
 have c7:=h.c 7 _ rfl
 have hf:=h.f
 have u0:=ok.u
 have u1:=ok.u'
 have OK:=Hid.mk' ok
 have KB:=Hid.mk' kb
 have b0:r.d.f0.length<=10000:=ok.b0
 clear h ok kb
 have z0:=aQ r.d.f0
 have hS:(⟨#[]⟩:ByteArray)=S []:=rfl
 have zl:=aQ l
 have hx:=xB r.d.f0 l
 have OKA:Hid (({r.d with f0:=r.d.f0++l}:Dk).Ok):=OK.out.append 0 l hl
 have m0:(Dk.act {r.d with f0:=r.d.f0++l})=if r.d.un=0 then ({r.d with f0:=r.d.f0++l},true) else if r.d.un=1 then ((Dk.crash {r.d with f0:=r.d.f0++l} r.d.kp),false) else ({r.d with f0:=r.d.f0++l,un:=r.d.un -1},true):=rfl
 by_cases h0:r.d.un=0
 ·rw[if_pos h0] at m0
  have e:r.put (r.d.append 0 l)=(⟨r.up,{r.d with f0:=r.d.f0++l},r.ct⟩,true):=by
   exact congrArg r.put m0
  rw[e]
  clear m0 e
  rw[h0] at c6
  go_enter func101,ntmps101
  go_wp2_with fail
  go_region
  all_goals
   go_wp2
   go_ret
   exact ⟨rfl,(H.out.put 1 _ (by simp[Rs.cells])).drew,(Only.set w b 1 _).drew⟩
 ·rw[if_neg h0] at m0
  by_cases h1:r.d.un=1
  ·rw[if_pos h1] at m0
   have e:r.put (r.d.append 0 l)=(Rs.lost ⟨r.up,{r.d with f0:=r.d.f0++l,un:=0},r.ct⟩ r.d.kp,false):=by
    exact congrArg r.put m0
   rw[e]
   clear m0 e
   rw[h1] at c6
   have HL:Hid (At ((w.setCell ⟨b,6,none⟩ (.int .i64 0)).setCell ⟨b,1,none⟩ (.string (S (r.d.f0++l)))) b (⟨r.up,{r.d with f0:=r.d.f0++l,un:=0},r.ct⟩:Rs).cells):=(H.out.put 6 _ (by simp[Rs.cells])).put 1 _ (by simp[Rs.cells])
   have OKL:Hid (({r.d with f0:=r.d.f0++l,un:=0}:Dk).Ok):=⟨OKA.out.a0,OKA.out.a1,OKA.out.b0,OKA.out.b1,Int.le_refl _,by show (0:Int)<=9223372036854775807;omega⟩
   go_enter func101,ntmps101
   go_wp2_with fail
   go_region
   all_goals
    go_wp2_with fail
    refine Calls.mono (fN b _ r.d.kp _ HL.out.drew OKL.out KB.out) ?_
    rintro e w1 ⟨rfl,h1,o1⟩
    go_wp2
    go_ret
    exact ⟨rfl,h1,(Only.set2 w b 6 1 _ _).drew.trans (o1.mono (fun _ _ e=>.inl e))⟩
  ·rw[if_neg h1] at m0
   have e:r.put (r.d.append 0 l)=(⟨r.up,{r.d with f0:=r.d.f0++l,un:=r.d.un -1},r.ct⟩,true):=by
    exact congrArg r.put m0
   rw[e]
   clear m0 e
   have hp:(0:Int)<r.d.un:=by omega
   have hq:(r.d.un==1)=false:=by simp[h1]
   go_enter func101,ntmps101
   go_wp2_with fail
   go_region
   all_goals
    go_wp2
    go_ret
    exact ⟨rfl,((H.out.put 6 _ (by simp[Rs.cells])).put 1 _ (by simp[Rs.cells])).drew,(Only.set2 w b 6 1 _ _).drew⟩
theorem aCC (b:Nat)(r:Rs)(l:List UInt8)(w:World)(h:At w b r.cells)(ok:r.d.Ok)(kb:-9223372036854775808<=r.d.kp/\r.d.kp<=9223372036854775807)(hl:r.d.f1.length+l.length<=10000):
  Calls prog 101 #[.pointer (some ⟨b,0,none⟩),.int .i64 1,.int .i64 1,.string (S l)] w fun e w'=>e=.returned (.bool (r.put (r.d.append 1 l)).2)/\At w' b (r.put (r.d.append 1 l)).1.cells/\Only w w' (fun j=>j=b):=by
 have H:=Hid.mk' h
 have c0:=h.c 0 _ rfl
 have c1:w.cell? ⟨b,2,none⟩=some (.string (S r.d.f1)):=h.c 2 _ rfl
 have c3:w.cell? ⟨b,4,none⟩=some (.int .i64 r.d.l1):=h.c 4 _ rfl
 have c6:=h.c 6 _ rfl
 have c7:=h.c 7 _ rfl
 have hf:=h.f
 have u0:=ok.u
 have u1:=ok.u'
 have OK:=Hid.mk' ok
 have KB:=Hid.mk' kb
 have b0:r.d.f1.length<=10000:=ok.b1
 clear h ok kb
 have z0:=aQ r.d.f1
 have hS:(⟨#[]⟩:ByteArray)=S []:=rfl
 have zl:=aQ l
 have hx:=xB r.d.f1 l
 have OKA:Hid (({r.d with f1:=r.d.f1++l}:Dk).Ok):=OK.out.append 1 l hl
 have m0:(Dk.act {r.d with f1:=r.d.f1++l})=if r.d.un=0 then ({r.d with f1:=r.d.f1++l},true) else if r.d.un=1 then ((Dk.crash {r.d with f1:=r.d.f1++l} r.d.kp),false) else ({r.d with f1:=r.d.f1++l,un:=r.d.un -1},true):=rfl
 by_cases h0:r.d.un=0
 ·rw[if_pos h0] at m0
  have e:r.put (r.d.append 1 l)=(⟨r.up,{r.d with f1:=r.d.f1++l},r.ct⟩,true):=by
   exact congrArg r.put m0
  rw[e]
  clear m0 e
  rw[h0] at c6
  go_enter func101,ntmps101
  go_wp2_with fail
  go_region
  all_goals
   go_wp2
   go_ret
   exact ⟨rfl,(H.out.put 2 _ (by simp[Rs.cells])).drew,(Only.set w b 2 _).drew⟩
 ·rw[if_neg h0] at m0
  by_cases h1:r.d.un=1
  ·rw[if_pos h1] at m0
   have e:r.put (r.d.append 1 l)=(Rs.lost ⟨r.up,{r.d with f1:=r.d.f1++l,un:=0},r.ct⟩ r.d.kp,false):=by
    exact congrArg r.put m0
   rw[e]
   clear m0 e
   rw[h1] at c6
   have HL:Hid (At ((w.setCell ⟨b,6,none⟩ (.int .i64 0)).setCell ⟨b,2,none⟩ (.string (S (r.d.f1++l)))) b (⟨r.up,{r.d with f1:=r.d.f1++l,un:=0},r.ct⟩:Rs).cells):=(H.out.put 6 _ (by simp[Rs.cells])).put 2 _ (by simp[Rs.cells])
   have OKL:Hid (({r.d with f1:=r.d.f1++l,un:=0}:Dk).Ok):=⟨OKA.out.a0,OKA.out.a1,OKA.out.b0,OKA.out.b1,Int.le_refl _,by show (0:Int)<=9223372036854775807;omega⟩
   go_enter func101,ntmps101
   go_wp2_with fail
   go_region
   all_goals
    go_wp2_with fail
    refine Calls.mono (fN b _ r.d.kp _ HL.out.drew OKL.out KB.out) ?_
    rintro e w1 ⟨rfl,h1,o1⟩
    go_wp2
    go_ret
    exact ⟨rfl,h1,(Only.set2 w b 6 2 _ _).drew.trans (o1.mono (fun _ _ e=>.inl e))⟩
  ·rw[if_neg h1] at m0
   have e:r.put (r.d.append 1 l)=(⟨r.up,{r.d with f1:=r.d.f1++l,un:=r.d.un -1},r.ct⟩,true):=by
    exact congrArg r.put m0
   rw[e]
   clear m0 e
   have hp:(0:Int)<r.d.un:=by omega
   have hq:(r.d.un==1)=false:=by simp[h1]
   go_enter func101,ntmps101
   go_wp2_with fail
   go_region
   all_goals
    go_wp2
    go_ret
    exact ⟨rfl,((H.out.put 6 _ (by simp[Rs.cells])).put 2 _ (by simp[Rs.cells])).drew,(Only.set2 w b 6 2 _ _).drew⟩
theorem aHl (b:Nat)(r:Rs)(w:World)(h:At w b r.cells)(ok:r.d.Ok)(kb:-9223372036854775808<=r.d.kp/\r.d.kp<=9223372036854775807):
  Calls prog 101 #[.pointer (some ⟨b,0,none⟩),.int .i64 2,.int .i64 0,.string (⟨#[]⟩)] w fun e w'=>e=.returned (.bool (r.put (r.d.sync 0)).2)/\At w' b (r.put (r.d.sync 0)).1.cells/\Only w w' (fun j=>j=b):=by
 have H:=Hid.mk' h
 have c0:=h.c 0 _ rfl
 have c1:w.cell? ⟨b,1,none⟩=some (.string (S r.d.f0)):=h.c 1 _ rfl
 have c3:w.cell? ⟨b,3,none⟩=some (.int .i64 r.d.l0):=h.c 3 _ rfl
 have c6:=h.c 6 _ rfl
 have c7:=h.c 7 _ rfl
 have hf:=h.f
 have u0:=ok.u
 have u1:=ok.u'
 have OK:=Hid.mk' ok
 have KB:=Hid.mk' kb
 have b0:r.d.f0.length<=10000:=ok.b0
 clear h ok kb
 have z0:=aQ r.d.f0
 have hS:(⟨#[]⟩:ByteArray)=S []:=rfl
 have m0:(Dk.act r.d)=if r.d.un=0 then (r.d,true) else if r.d.un=1 then ((Dk.crash r.d r.d.kp),false) else ({r.d with un:=r.d.un -1},true):=rfl
 by_cases h0:r.d.un=0
 ·rw[if_pos h0] at m0
  have e:r.put (r.d.sync 0)=(⟨r.up,{r.d with l0:=r.d.f0.length},r.ct⟩,true):=by
   unfold Dk.sync;rw[m0];rfl
  rw[e]
  clear m0 e
  rw[h0] at c6
  go_enter func101,ntmps101
  go_wp2_with fail
  go_region
  all_goals
   go_wp2
   go_ret
   exact ⟨rfl,(H.out.put 3 _ (by simp[Rs.cells])).drew,(Only.set w b 3 _).drew⟩
 ·rw[if_neg h0] at m0
  by_cases h1:r.d.un=1
  ·rw[if_pos h1] at m0
   have e:r.put (r.d.sync 0)=(Rs.lost ⟨r.up,{r.d with un:=0},r.ct⟩ r.d.kp,false):=by
    unfold Dk.sync;rw[m0];rfl
   rw[e]
   clear m0 e
   rw[h1] at c6
   have HL:Hid (At (w.setCell ⟨b,6,none⟩ (.int .i64 0)) b (⟨r.up,{r.d with un:=0},r.ct⟩:Rs).cells):=H.out.put 6 _ (by simp[Rs.cells])
   have OKL:Hid (({r.d with un:=0}:Dk).Ok):=⟨OK.out.a0,OK.out.a1,OK.out.b0,OK.out.b1,Int.le_refl _,by show (0:Int)<=9223372036854775807;omega⟩
   go_enter func101,ntmps101
   go_wp2_with fail
   refine Calls.mono (fN b _ r.d.kp _ HL.out OKL.out KB.out) ?_
   rintro e w1 ⟨rfl,h1,o1⟩
   go_wp2
   go_ret
   exact ⟨rfl,h1,(Only.set w b 6 _).trans (o1.mono (fun _ _ e=>.inl e))⟩
  ·rw[if_neg h1] at m0
   have e:r.put (r.d.sync 0)=(⟨r.up,{r.d with l0:=r.d.f0.length,un:=r.d.un -1},r.ct⟩,true):=by
    unfold Dk.sync;rw[m0];rfl
   rw[e]
   clear m0 e
   have hp:(0:Int)<r.d.un:=by omega
   have hq:(r.d.un==1)=false:=by simp[h1]
   go_enter func101,ntmps101
   go_wp2_with fail
   go_region
   all_goals
    go_wp2
    go_ret
    exact ⟨rfl,((H.out.put 6 _ (by simp[Rs.cells])).put 3 _ (by simp[Rs.cells])).drew,(Only.set2 w b 6 3 _ _).drew⟩
theorem aHm (b:Nat)(r:Rs)(w:World)(h:At w b r.cells)(ok:r.d.Ok)(kb:-9223372036854775808<=r.d.kp/\r.d.kp<=9223372036854775807):
  Calls prog 101 #[.pointer (some ⟨b,0,none⟩),.int .i64 2,.int .i64 1,.string (⟨#[]⟩)] w fun e w'=>e=.returned (.bool (r.put (r.d.sync 1)).2)/\At w' b (r.put (r.d.sync 1)).1.cells/\Only w w' (fun j=>j=b):=by
 have H:=Hid.mk' h
 have c0:=h.c 0 _ rfl
 have c1:w.cell? ⟨b,2,none⟩=some (.string (S r.d.f1)):=h.c 2 _ rfl
 have c3:w.cell? ⟨b,4,none⟩=some (.int .i64 r.d.l1):=h.c 4 _ rfl
 have c6:=h.c 6 _ rfl
 have c7:=h.c 7 _ rfl
 have hf:=h.f
 have u0:=ok.u
 have u1:=ok.u'
 have OK:=Hid.mk' ok
 have KB:=Hid.mk' kb
 have b0:r.d.f1.length<=10000:=ok.b1
 clear h ok kb
 have z0:=aQ r.d.f1
 have hS:(⟨#[]⟩:ByteArray)=S []:=rfl
 have m0:(Dk.act r.d)=if r.d.un=0 then (r.d,true) else if r.d.un=1 then ((Dk.crash r.d r.d.kp),false) else ({r.d with un:=r.d.un -1},true):=rfl
 by_cases h0:r.d.un=0
 ·rw[if_pos h0] at m0
  have e:r.put (r.d.sync 1)=(⟨r.up,{r.d with l1:=r.d.f1.length},r.ct⟩,true):=by
   unfold Dk.sync;rw[m0];rfl
  rw[e]
  clear m0 e
  rw[h0] at c6
  go_enter func101,ntmps101
  go_wp2_with fail
  go_region
  all_goals
   go_wp2
   go_ret
   exact ⟨rfl,(H.out.put 4 _ (by simp[Rs.cells])).drew,(Only.set w b 4 _).drew⟩
 ·rw[if_neg h0] at m0
  by_cases h1:r.d.un=1
  ·rw[if_pos h1] at m0
   have e:r.put (r.d.sync 1)=(Rs.lost ⟨r.up,{r.d with un:=0},r.ct⟩ r.d.kp,false):=by
    unfold Dk.sync;rw[m0];rfl
   rw[e]
   clear m0 e
   rw[h1] at c6
   have HL:Hid (At (w.setCell ⟨b,6,none⟩ (.int .i64 0)) b (⟨r.up,{r.d with un:=0},r.ct⟩:Rs).cells):=H.out.put 6 _ (by simp[Rs.cells])
   have OKL:Hid (({r.d with un:=0}:Dk).Ok):=⟨OK.out.a0,OK.out.a1,OK.out.b0,OK.out.b1,Int.le_refl _,by show (0:Int)<=9223372036854775807;omega⟩
   go_enter func101,ntmps101
   go_wp2_with fail
   refine Calls.mono (fN b _ r.d.kp _ HL.out OKL.out KB.out) ?_
   rintro e w1 ⟨rfl,h1,o1⟩
   go_wp2
   go_ret
   exact ⟨rfl,h1,(Only.set w b 6 _).trans (o1.mono (fun _ _ e=>.inl e))⟩
  ·rw[if_neg h1] at m0
   have e:r.put (r.d.sync 1)=(⟨r.up,{r.d with l1:=r.d.f1.length,un:=r.d.un -1},r.ct⟩,true):=by
    unfold Dk.sync;rw[m0];rfl
   rw[e]
   clear m0 e
   have hp:(0:Int)<r.d.un:=by omega
   have hq:(r.d.un==1)=false:=by simp[h1]
   go_enter func101,ntmps101
   go_wp2_with fail
   go_region
   all_goals
    go_wp2
    go_ret
    exact ⟨rfl,((H.out.put 6 _ (by simp[Rs.cells])).put 4 _ (by simp[Rs.cells])).drew,(Only.set2 w b 6 4 _ _).drew⟩
theorem aIN (b:Nat)(r:Rs)(w:World)(h:At w b r.cells)(ok:r.d.Ok)(kb:-9223372036854775808<=r.d.kp/\r.d.kp<=9223372036854775807):
  Calls prog 101 #[.pointer (some ⟨b,0,none⟩),.int .i64 3,.int .i64 0,.string (⟨#[]⟩)] w fun e w'=>e=.returned (.bool (r.put (r.d.cut 0)).2)/\At w' b (r.put (r.d.cut 0)).1.cells/\Only w w' (fun j=>j=b):=by
 have H:=Hid.mk' h
 have c0:=h.c 0 _ rfl
 have c1:w.cell? ⟨b,1,none⟩=some (.string (S r.d.f0)):=h.c 1 _ rfl
 have c3:w.cell? ⟨b,3,none⟩=some (.int .i64 r.d.l0):=h.c 3 _ rfl
 have c6:=h.c 6 _ rfl
 have c7:=h.c 7 _ rfl
 have hf:=h.f
 have u0:=ok.u
 have u1:=ok.u'
 have OK:=Hid.mk' ok
 have KB:=Hid.mk' kb
 have b0:r.d.f0.length<=10000:=ok.b0
 clear h ok kb
 have z0:=aQ r.d.f0
 have hS:(⟨#[]⟩:ByteArray)=S []:=rfl
 have m0:(Dk.act r.d)=if r.d.un=0 then (r.d,true) else if r.d.un=1 then ((Dk.crash r.d r.d.kp),false) else ({r.d with un:=r.d.un -1},true):=rfl
 by_cases h0:r.d.un=0
 ·rw[if_pos h0] at m0
  have e:r.put (r.d.cut 0)=(⟨r.up,{r.d with f0:=[],l0:=0},r.ct⟩,true):=by
   unfold Dk.cut;rw[m0];rfl
  rw[e]
  clear m0 e
  rw[h0] at c6
  go_enter func101,ntmps101
  go_wp2_with fail
  go_region
  all_goals
   go_wp2
   go_ret
   exact ⟨rfl,((H.out.put 1 (.string (S [])) (by simp[Rs.cells])).put 3 (.int .i64 0) (by simp[Rs.cells])).drew,(Only.set2 w b 1 3 _ _).drew⟩
 ·rw[if_neg h0] at m0
  by_cases h1:r.d.un=1
  ·rw[if_pos h1] at m0
   have e:r.put (r.d.cut 0)=(Rs.lost ⟨r.up,{r.d with un:=0},r.ct⟩ r.d.kp,false):=by
    unfold Dk.cut;rw[m0];rfl
   rw[e]
   clear m0 e
   rw[h1] at c6
   have HL:Hid (At (w.setCell ⟨b,6,none⟩ (.int .i64 0)) b (⟨r.up,{r.d with un:=0},r.ct⟩:Rs).cells):=H.out.put 6 _ (by simp[Rs.cells])
   have OKL:Hid (({r.d with un:=0}:Dk).Ok):=⟨OK.out.a0,OK.out.a1,OK.out.b0,OK.out.b1,Int.le_refl _,by show (0:Int)<=9223372036854775807;omega⟩
   go_enter func101,ntmps101
   go_wp2_with fail
   refine Calls.mono (fN b _ r.d.kp _ HL.out OKL.out KB.out) ?_
   rintro e w1 ⟨rfl,h1,o1⟩
   go_wp2
   go_ret
   exact ⟨rfl,h1,(Only.set w b 6 _).trans (o1.mono (fun _ _ e=>.inl e))⟩
  ·rw[if_neg h1] at m0
   have e:r.put (r.d.cut 0)=(⟨r.up,{r.d with f0:=[],l0:=0,un:=r.d.un -1},r.ct⟩,true):=by
    unfold Dk.cut;rw[m0];rfl
   rw[e]
   clear m0 e
   have hp:(0:Int)<r.d.un:=by omega
   have hq:(r.d.un==1)=false:=by simp[h1]
   go_enter func101,ntmps101
   go_wp2_with fail
   go_region
   all_goals
    go_wp2
    go_ret
    exact ⟨rfl,(((H.out.put 6 _ (by simp[Rs.cells])).put 1 (.string (S [])) (by simp[Rs.cells])).put 3 (.int .i64 0) (by simp[Rs.cells])).drew,((Only.set2 w b 6 1 _ _).trans ((Only.set _ b 3 _).mono (fun _ _ e=>.inl e))).drew⟩
theorem aIO (b:Nat)(r:Rs)(w:World)(h:At w b r.cells)(ok:r.d.Ok)(kb:-9223372036854775808<=r.d.kp/\r.d.kp<=9223372036854775807):
  Calls prog 101 #[.pointer (some ⟨b,0,none⟩),.int .i64 3,.int .i64 1,.string (⟨#[]⟩)] w fun e w'=>e=.returned (.bool (r.put (r.d.cut 1)).2)/\At w' b (r.put (r.d.cut 1)).1.cells/\Only w w' (fun j=>j=b):=by
 have H:=Hid.mk' h
 have c0:=h.c 0 _ rfl
 have c1:w.cell? ⟨b,2,none⟩=some (.string (S r.d.f1)):=h.c 2 _ rfl
 have c3:w.cell? ⟨b,4,none⟩=some (.int .i64 r.d.l1):=h.c 4 _ rfl
 have c6:=h.c 6 _ rfl
 have c7:=h.c 7 _ rfl
 have hf:=h.f
 have u0:=ok.u
 have u1:=ok.u'
 have OK:=Hid.mk' ok
 have KB:=Hid.mk' kb
 have b0:r.d.f1.length<=10000:=ok.b1
 clear h ok kb
 have z0:=aQ r.d.f1
 have hS:(⟨#[]⟩:ByteArray)=S []:=rfl
 have m0:(Dk.act r.d)=if r.d.un=0 then (r.d,true) else if r.d.un=1 then ((Dk.crash r.d r.d.kp),false) else ({r.d with un:=r.d.un -1},true):=rfl
 by_cases h0:r.d.un=0
 ·rw[if_pos h0] at m0
  have e:r.put (r.d.cut 1)=(⟨r.up,{r.d with f1:=[],l1:=0},r.ct⟩,true):=by
   unfold Dk.cut;rw[m0];rfl
  rw[e]
  clear m0 e
  rw[h0] at c6
  go_enter func101,ntmps101
  go_wp2_with fail
  go_region
  all_goals
   go_wp2
   go_ret
   exact ⟨rfl,((H.out.put 2 (.string (S [])) (by simp[Rs.cells])).put 4 (.int .i64 0) (by simp[Rs.cells])).drew,(Only.set2 w b 2 4 _ _).drew⟩
 ·rw[if_neg h0] at m0
  by_cases h1:r.d.un=1
  ·rw[if_pos h1] at m0
   have e:r.put (r.d.cut 1)=(Rs.lost ⟨r.up,{r.d with un:=0},r.ct⟩ r.d.kp,false):=by
    unfold Dk.cut;rw[m0];rfl
   rw[e]
   clear m0 e
   rw[h1] at c6
   have HL:Hid (At (w.setCell ⟨b,6,none⟩ (.int .i64 0)) b (⟨r.up,{r.d with un:=0},r.ct⟩:Rs).cells):=H.out.put 6 _ (by simp[Rs.cells])
   have OKL:Hid (({r.d with un:=0}:Dk).Ok):=⟨OK.out.a0,OK.out.a1,OK.out.b0,OK.out.b1,Int.le_refl _,by show (0:Int)<=9223372036854775807;omega⟩
   go_enter func101,ntmps101
   go_wp2_with fail
   refine Calls.mono (fN b _ r.d.kp _ HL.out OKL.out KB.out) ?_
   rintro e w1 ⟨rfl,h1,o1⟩
   go_wp2
   go_ret
   exact ⟨rfl,h1,(Only.set w b 6 _).trans (o1.mono (fun _ _ e=>.inl e))⟩
  ·rw[if_neg h1] at m0
   have e:r.put (r.d.cut 1)=(⟨r.up,{r.d with f1:=[],l1:=0,un:=r.d.un -1},r.ct⟩,true):=by
    unfold Dk.cut;rw[m0];rfl
   rw[e]
   clear m0 e
   have hp:(0:Int)<r.d.un:=by omega
   have hq:(r.d.un==1)=false:=by simp[h1]
   go_enter func101,ntmps101
   go_wp2_with fail
   go_region
   all_goals
    go_wp2
    go_ret
    exact ⟨rfl,(((H.out.put 6 _ (by simp[Rs.cells])).put 2 (.string (S [])) (by simp[Rs.cells])).put 4 (.int .i64 0) (by simp[Rs.cells])).drew,((Only.set2 w b 6 2 _ _).trans ((Only.set _ b 4 _).mono (fun _ _ e=>.inl e))).drew⟩
end Go.Proofs.YtammnaafdhhjaaaGreat
