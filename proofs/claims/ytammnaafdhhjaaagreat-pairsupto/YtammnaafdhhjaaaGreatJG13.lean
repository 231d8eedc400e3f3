import Derived.Test.YtammnaafdhhjaaaGreatJG7
import Derived.Test.YtammnaafdhhjaaaGreatK4
set_option maxHeartbeats 16000000
set_option maxRecDepth 100000
namespace Go.Proofs.YtammnaafdhhjaaaGreat
open Go.RowKit Go.Proofs.Tryz
structure DrInv (s:Sh):Prop where
 c:s.cO<=1000
 l:s.ob.length<=1000
 s0:0<=s.ms.s
 s1:s.ms.s<=65535
theorem DrInv.one {s:Sh}(h:DrInv s)(i:It):DrInv (s.driftOne i):=by
 unfold Sh.driftOne
 split
 ·exact ⟨h.c,h.l,h.s0,h.s1⟩
 ·split
  ·exact ⟨h.c,h.l,h.s0,h.s1⟩
  ·split
   ·rename_i hm
    unfold Sh.mayLeave at hm
    rw[Bool.and_eq_true,decide_eq_true_eq,decide_eq_true_eq] at hm
    have:=h.c
    have:=h.s0
    exact ⟨h.c,by show (s.ob++_).length<=1000;rw[List.length_append];simp;omega,by show 0<=s.ms.s+1;omega,by show s.ms.s+1<=65535;omega⟩
   ·exact h
theorem DrInv.all {s:Sh}(h:DrInv s):∀l:List It,DrInv (l.foldl Sh.driftOne s)
 | []=>h
 | x::t=>DrInv.all (h.one x) t
theorem Only.step {w w1 w2:World}{b bm:Nat}{ov ov1:Value}(h:Only w w1 (HS.foot b bm ov))(h':Only w1 w2 (HS.foot b bm ov1))(hv:∀j,ov1.ownBlock=some j->ov.ownBlock=some j∨w.heap.size<=j):Only w w2 (HS.foot b bm ov):=
 h.trans (h'.mono (fun k _ e=>by
  rcases e with e | e | e
  ·exact .inl (.inl e)
  ·exact .inl (.inr (.inl e))
  ·rcases hv k e with e | e
   ·exact .inl (.inr (.inr e))
   ·exact .inr e))
theorem xV (B b bd bm:Nat)(ov:Value)(s:Sh)(w:World)(h:HS w B b s bd bm ov)(hi:DrInv s)(hl:s.th.length<=1000)(hn:∀x∈s.th,aS x.pl=true/\aS x.sp=true):
  Calls prog 143 #[.pointer (some ⟨b,0,none⟩)] w fun e w'=>e=.returned (.tuple #[])/\∃(ss:List It) (ov':Value),ss.Perm s.th/\Srt ss/\HS w' B b (ss.foldl Sh.driftOne s) bd bm ov'/\Only w w' (HS.foot b bm ov)/\(∀j,ov'.ownBlock=some j->ov.ownBlock=some j∨w.heap.size<=j):=by
 have H:=Hid.mk' h
 have IOh:=Hid.mk' (lU b 7 bm s.th w (h.at_.c 7 _ rfl) h.mp hl)
 have hbl:=h.at_.lt
 have hml:=h.mp.lt
 have HI:=Hid.mk' hi
 have HN:=Hid.mk' hn
 clear h hi hn
 have hsf:=aK
 go_enter func143,ntmps143
 go_wp2_with fail
 refine Calls.mono IOh.out ?_
 rintro e w1 ⟨v,ss,rfl,hp,hs,hr,g1⟩
 have hlen:ss.length<=1000:=by rw[hp.length_eq];exact hl
 have HW:Hid (∀x∈ss,bD x.sh/\bD x.nu/\aS x.pl=true/\aS x.sp=true):=fun x hx=>by
  have hx':=hp.mem_iff.1 hx
  have:=H.out.mp.wf x hx'
  exact ⟨this.1,this.2,HN.out x hx'⟩
 obtain ⟨al,cl,rfl⟩:=aJ hr
 have HP:=Hid.mk' hp
 have HS':=Hid.mk' hs
 have G1:=Hid.mk' g1
 have H1:=Hid.mk' (H.out.grown g1)
 have vlt:Hid (∀j,Value.ownBlock (.slice al ss.length cl)=some j->w.heap.size<=j):=fun j hj=>(hr.lt j hj).1
 have z1:=g1.size
 obtain ⟨n,hnn⟩:∃n,ss.length=n:=⟨_,rfl⟩
 have HNN:=Hid.mk' hnn
 have HR:Hid (w1.ownsRow w.heap.size 75 4 (.slice al n cl) n (ss.flatMap It.cells)):=by
  have:=hr
  unfold OwnI at this
  rw[hnn] at this
  exact this
 rw[hnn] at hlen vlt ⊢
 clear hp hs hr g1 hnn
 go_wp2_with fail
 go_loopw [9] (fun t wr=>∃(k:Nat) (ov':Value),k<=n/\t=.int .i64 k/\HS wr B b ((ss.take k).foldl Sh.driftOne s) bd bm ov'/\Only w wr (HS.foot b bm ov)/\(∀j,ov'.ownBlock=some j->ov.ownBlock=some j∨w1.heap.size<=j)/\wr.ownsRow w.heap.size 75 4 (.slice al n cl) n (ss.flatMap It.cells)/\w1.heap.size<=wr.heap.size) (fun t _=>n -(intOf t).toNat)
 case atStart=>exact ⟨0,ov,by omega,rfl,H1.out,(Only.grown G1.out).mono (by simp),fun j hj=>.inl hj,HR.out,Nat.le_refl _⟩
 case round=>
  obtain ⟨k,ov',hk,rfl,hk',ho,hv,hro,hz⟩:=hrel
  have HK:=Hid.mk' hk'
  have HO:=Hid.mk' ho
  have HV:=Hid.mk' hv
  have HRO:=Hid.mk' hro
  clear hk' ho hv hro
  by_cases hlt:k<n
  ·have hkl:k<ss.length:=by rw[HNN.out];exact hlt
   obtain ⟨g,rfl⟩:∃g,al=some ⟨g,0,none⟩:=by
    rcases HRO.out.2 with ⟨h',hn0⟩ | ⟨g,cap,cur,h',_⟩
    ·omega
    ·injection h' with h1 h2 h3
     exact ⟨g,h1⟩
   obtain ⟨x,hx⟩:∃x,ss[k]=x:=⟨_,rfl⟩
   have d:∀j (hj:j<4) u,x.cells[j]?=some u->wr.cell? ⟨g,k * 4+j,none⟩=some u:=fun j hj u hu=>by
    refine (HRO.out.cellAt (k * 4+j) (by omega)).trans ?_
    rw[Nat.mul_comm k 4,cQ ss k j hkl hj,hx]
    exact hu
   have d0:=d 0 (by omega) _ rfl
   have d1:=d 1 (by omega) _ rfl
   have d2:=d 2 (by omega) _ rfl
   have d3:=d 3 (by omega) _ rfl
   have hxm:x∈ss:=by rw[<- hx];exact List.getElem_mem hkl
   have hw:=HW.out x hxm
   have htk:ss.take (k+1)=ss.take k++[x]:=by rw[List.take_succ_eq_append_getElem hkl,hx]
   have HTK:=Hid.mk' htk
   have di:=HI.out.all (ss.take k)
   have OKD:Hid (DrOk ((ss.take k).foldl Sh.driftOne s) x):=⟨hw.1,hw.2.1,hw.2.2.1,hw.2.2.2,di.l,di.s0,di.s1⟩
   clear d hx hxm htk di hw
   rw[Nat.add_zero] at d0
   have y0:(0:Int)<=(k:Int):=by omega
   have y1:(k:Int)<(n:Int):=by omega
   go_wp2_with fail
   refine Calls.mono (rV B b bd bm ov' _ x _ (HK.out.grown (World.grownBy_alloc wr _ none)) OKD.out) ?_
   rintro e w3 ⟨rfl,ov3,h3,o3,v3⟩
   have H3:=Hid.mk' h3
   have O3:=Hid.mk' o3
   have V3:=Hid.mk' v3
   clear h3 o3 v3
   have z3:=O3.out.size
   simp at z3
   go_wp2
   refine ⟨⟨k+1,ov3,by omega,by go_num,?_,?_,fun j hj=>?_,?_,by omega⟩,by simp[intOf];omega⟩
   ·rw[HTK.out,List.foldl_append];exact H3.out
   ·exact (HO.out.trans ((Only.grown (World.grownBy_alloc wr _ none)).mono (by simp))).step O3.out (fun j hj=>by rcases HV.out j hj with e | e;exact .inl e;exact .inr (by omega))
   ·rcases V3.out j hj with e | e
    ·exact HV.out j e
    ·simp at e;exact .inr (by omega)
   ·refine O3.out.own (World.ownsRow.alloc HRO.out _) (fun j hj e=>?_)
    have hj0:=vlt.out j hj
    have hj1:=(HR.out.lt j hj).2
    rcases e with e | e | e
    ·omega
    ·omega
    ·rcases HV.out j e with e | e
     ·have:=(H.out.ob.lt j e).2;omega
     ·omega
  ·have hkn:k=n:=by omega
   subst hkn
   rw[List.take_of_length_le (by rw[HNN.out];exact Nat.le_refl _)] at HK
   go_wp2
   refine bodyPost_end (v:=.tuple #[]) (by simp[results,results143]) rfl ⟨rfl,ss,ov',HP.out,HS'.out,HK.out,HO.out,fun j hj=>?_⟩
   rcases HV.out j hj with e | e
   ·exact .inl e
   ·exact .inr (by omega)
end Go.Proofs.YtammnaafdhhjaaaGreat
namespace Go.Proofs.YtammnaafdhhjaaaGreat
open Go.RowKit Go.Proofs.Tryz
def Sh.doBase (s:Sh)(m:Mk)(is:List It)(es:List En):Sh:={s with th:=is.foldl dB [],ob:=es,ms:=m}
def Sh.doMint (s:Sh)(i:It):Sh:={s with th:=dB s.th i,ms:={s.ms with m:=i.nu}}
def Sh.doDestroy (s:Sh)(i:It):Sh:={s with th:=eJ s.th i.sh i.nu}
def Sh.doArrive (s:Sh)(q:Int)(i:It):Sh:={s with th:=dB s.th i,ms:={s.ms with n:=q}}
theorem rY (B b bd:Nat)(mv ov:Value)(s:Sh)(q:Int)(i:It)(m:Mk)(is:List It)(es:List En)(vi vo:Value)(w:World)(h:At w b (s.cells bd mv ov))(hi:bH w vi is)(ho:OwnE B w vo es)(hB:B<=w.heap.size)(hr:∀x∈is,bD x.sh/\bD x.nu)(hl:is.length<=1000)(hvb:vo.ownBlock≠some b):
  Calls prog 89 #[.pointer (some ⟨b,0,none⟩),rv 6 q i m vi vo] w fun e w'=>e=.returned (.tuple #[])/\∃bm,HS w' B b (s.doBase m is es) bd bm vo/\Only w w' (fun j=>j=b)/\w.heap.size<=bm:=by
 obtain ⟨ai,ci,rfl,_⟩:=id hi
 obtain ⟨ao,co,rfl⟩:=aJ ho
 obtain ⟨ni,hni⟩:∃n,is.length=n:=⟨_,rfl⟩
 obtain ⟨no,hno⟩:∃n,es.length=n:=⟨_,rfl⟩
 rw[hni] at hi hl ⊢
 rw[hno] at ho hvb ⊢
 have G0:=Hid.mk' (World.grownBy_alloc w (.cells #[.int .i64 6,.int .i64 q,.int .i64 i.sh,.int .i64 i.nu,.float .f32 i.pl,.float .f32 i.sp,.int .i64 m.g,.int .i64 m.m,.int .i64 m.s,.int .i64 m.a,.int .i64 m.n,.slice ai ni ci,.slice ao no co] 139) none)
 have A:=Hid.mk' (xR 6 q i m is (.slice ai ni ci) (.slice ao no co) _ (hi.grown G0.out) ⟨_,_,_,rfl⟩ hr (by rw[hni];exact hl))
 have H:=Hid.mk' h
 have HO:=Hid.mk' ho
 have HV:=Hid.mk' hvb
 have hbl:=h.lt
 clear h hi ho hr hvb hni
 unfold rv at *
 go_enter func89,ntmps89
 go_wp2_with fail
 refine Calls.mono A.out ?_
 rintro e w1 ⟨bm,rfl,m1,hbm,g1⟩
 have G1:=Hid.mk' (G0.out.trans g1)
 have z1:=G1.out.size
 have H1:=Hid.mk' (H.out.grown G1.out)
 have M1:=Hid.mk' m1
 have c7:=H1.out.c 7 _ rfl
 have c8:=H1.out.c 8 _ rfl
 have c9:=H1.out.c 9 _ rfl
 have c10:=H1.out.c 10 _ rfl
 have c11:=H1.out.c 11 _ rfl
 have c12:=H1.out.c 12 _ rfl
 have c13:=H1.out.c 13 _ rfl
 have hf:=H1.out.f
 simp at hbm
 clear m1 g1
 have P1:=Hid.mk' (cW b [.map (some bm),.slice ao no co,.int .i64 m.g,.int .i64 m.m,.int .i64 m.s,.int .i64 m.a,.int .i64 m.n] w1 7)
 go_wp2
 refine bodyPost_end (v:=.tuple #[]) (by simp[results,results89]) rfl ⟨rfl,bm,⟨?_,M1.out.only P1.out (by omega),P1.out.own (aO HO.out G1.out) (fun j hj e=>HV.out (by rw[<- e];exact hj)),HV.out,by omega,fun e=>by have:=(HO.out.lt _ e).2;omega,Nat.le_trans hB (Nat.le_trans z1 P1.out.size)⟩,((Only.grown G1.out).mono (by simp)).trans (P1.out.mono (fun _ _ e=>.inl e)),by omega⟩
 exact ((((((H1.out.put 7 (.map (some bm)) (by simp[Sh.cells])).put 8 (.slice ao no co) (by simp[Sh.cells])).put 9 (.int .i64 m.g) (by simp[Sh.cells])).put 10 (.int .i64 m.m) (by simp[Sh.cells])).put 11 (.int .i64 m.s) (by simp[Sh.cells])).put 12 (.int .i64 m.a) (by simp[Sh.cells])).put 13 (.int .i64 m.n) (by simp[Sh.cells])
theorem aAC (B b bd bm:Nat)(ov:Value)(s:Sh)(q:Int)(i:It)(m:Mk)(ai ao:Option Addr)(ni ci no co:Nat)(w:World)(h:HS w B b s bd bm ov)(ha:bD i.sh)(hb:bD i.nu):
  Calls prog 89 #[.pointer (some ⟨b,0,none⟩),rv 1 q i m (.slice ai ni ci) (.slice ao no co)] w fun e w'=>e=.returned (.tuple #[])/\HS w' B b (s.doMint i) bd bm ov/\Only w w' (HS.foot b bm ov):=by
 have H:=Hid.mk' h
 have hbl:=h.at_.lt
 have hml:=h.mp.lt
 have c7:=h.at_.c 7 _ rfl
 have hne:b≠w.heap.size:=by omega
 clear h
 have G0:=Hid.mk' (World.grownBy_alloc w (.cells #[.int .i64 1,.int .i64 q,.int .i64 i.sh,.int .i64 i.nu,.float .f32 i.pl,.float .f32 i.sp,.int .i64 m.g,.int .i64 m.m,.int .i64 m.s,.int .i64 m.a,.int .i64 m.n,.slice ai ni ci,.slice ao no co] 139) none)
 have H0:=Hid.mk' (H.out.grown G0.out)
 unfold rv
 go_enter func89,ntmps89
 go_wp2_with fail
 go_region_law (first | (go_simp;go_at_call 142;refine Calls.mono (iV b 7 bm s.th i _ (by go_simp) H0.out.mp.drew ha hb) ?_;rintro e w9 ⟨rfl,m9,g9⟩))
 all_goals
  have H9:=Hid.mk' ((H0.out.grown (aA (aD _ none))).put m9 ((Only.grown g9).mono (fun _ _ e=>by injection e with e;exact e.symm)))
  have A9:=Hid.mk' (((At.new w [.int .i64 1,.int .i64 q,.int .i64 i.sh,.int .i64 i.nu,.float .f32 i.pl,.float .f32 i.sp,.int .i64 m.g,.int .i64 m.m,.int .i64 m.s,.int .i64 m.a,.int .i64 m.n,.slice ai ni ci,.slice ao no co] 139).grown (aA (aD _ none))).only (Only.grown g9) (by simp;omega))
  have x10:w9.cell? ⟨b,10,none⟩=some (.int .i64 s.ms.m):=H9.out.at_.c 10 _ rfl
  have xf:=H9.out.at_.f
  have y:w9.cell? ⟨w.heap.size,3,none⟩=some (.int .i64 i.nu):=A9.out.c 3 _ rfl
  have P9:Hid (Only w w9 (HS.foot b bm ov)):=(((Only.grown G0.out).mono (by simp)).drew).trans ((Only.grown g9).mono (fun k _ e=>.inl (.inr (.inl (by injection e with e;exact e.symm)))))
  clear m9 g9
  go_wp2
  refine bodyPost_end (v:=.tuple #[]) (by simp[results,results89]) rfl ⟨rfl,⟨H9.out.at_.put 10 _ (by simp[Sh.cells]),H9.out.mp.only (Only.set w9 b 10 _) H.out.n2,aH H9.out.ob _ _ _ H.out.n1,H.out.n1,H.out.n2,H.out.n3,by have:=H9.out.hB;simpa using this⟩,P9.out.trans ((Only.set w9 b 10 _).mono (fun _ _ e=>.inl (.inl e)))⟩
theorem vR (B b bd bm:Nat)(ov:Value)(s:Sh)(q:Int)(i:It)(m:Mk)(ai ao:Option Addr)(ni ci no co:Nat)(w:World)(h:HS w B b s bd bm ov)(ha:bD i.sh)(hb:bD i.nu):
  Calls prog 89 #[.pointer (some ⟨b,0,none⟩),rv 4 q i m (.slice ai ni ci) (.slice ao no co)] w fun e w'=>e=.returned (.tuple #[])/\HS w' B b (s.doArrive q i) bd bm ov/\Only w w' (HS.foot b bm ov):=by
 have H:=Hid.mk' h
 have hbl:=h.at_.lt
 have hml:=h.mp.lt
 have c7:=h.at_.c 7 _ rfl
 have hne:b≠w.heap.size:=by omega
 clear h
 have G0:=Hid.mk' (World.grownBy_alloc w (.cells #[.int .i64 4,.int .i64 q,.int .i64 i.sh,.int .i64 i.nu,.float .f32 i.pl,.float .f32 i.sp,.int .i64 m.g,.int .i64 m.m,.int .i64 m.s,.int .i64 m.a,.int .i64 m.n,.slice ai ni ci,.slice ao no co] 139) none)
 have H0:=Hid.mk' (H.out.grown G0.out)
 unfold rv
 go_enter func89,ntmps89
 go_wp2_with fail
 go_region_law (first | (go_simp;go_at_call 142;refine Calls.mono (iV b 7 bm s.th i _ (by go_simp) H0.out.mp.drew ha hb) ?_;rintro e w9 ⟨rfl,m9,g9⟩))
 all_goals
  have H9:=Hid.mk' ((H0.out.grown (aA (aD _ none))).put m9 ((Only.grown g9).mono (fun _ _ e=>by injection e with e;exact e.symm)))
  have A9:=Hid.mk' (((At.new w [.int .i64 4,.int .i64 q,.int .i64 i.sh,.int .i64 i.nu,.float .f32 i.pl,.float .f32 i.sp,.int .i64 m.g,.int .i64 m.m,.int .i64 m.s,.int .i64 m.a,.int .i64 m.n,.slice ai ni ci,.slice ao no co] 139).grown (aA (aD _ none))).only (Only.grown g9) (by simp;omega))
  have x13:w9.cell? ⟨b,13,none⟩=some (.int .i64 s.ms.n):=H9.out.at_.c 13 _ rfl
  have xf:=H9.out.at_.f
  have y:w9.cell? ⟨w.heap.size,1,none⟩=some (.int .i64 q):=A9.out.c 1 _ rfl
  have P9:Hid (Only w w9 (HS.foot b bm ov)):=(((Only.grown G0.out).mono (by simp)).drew).trans ((Only.grown g9).mono (fun k _ e=>.inl (.inr (.inl (by injection e with e;exact e.symm)))))
  clear m9 g9
  go_wp2
  refine bodyPost_end (v:=.tuple #[]) (by simp[results,results89]) rfl ⟨rfl,⟨H9.out.at_.put 13 _ (by simp[Sh.cells]),H9.out.mp.only (Only.set w9 b 13 _) H.out.n2,aH H9.out.ob _ _ _ H.out.n1,H.out.n1,H.out.n2,H.out.n3,by have:=H9.out.hB;simpa using this⟩,P9.out.trans ((Only.set w9 b 13 _).mono (fun _ _ e=>.inl (.inl e)))⟩
theorem tA (B b bd bm:Nat)(ov:Value)(s:Sh)(q:Int)(i:It)(m:Mk)(ai ao:Option Addr)(ni ci no co:Nat)(w:World)(h:HS w B b s bd bm ov)(ha:bD i.sh)(hb:bD i.nu):
  Calls prog 89 #[.pointer (some ⟨b,0,none⟩),rv 2 q i m (.slice ai ni ci) (.slice ao no co)] w fun e w'=>e=.returned (.tuple #[])/\HS w' B b (s.doDestroy i) bd bm ov/\Only w w' (HS.foot b bm ov):=by
 have H:=Hid.mk' h
 have hbl:=h.at_.lt
 have hml:=h.mp.lt
 have c7:=h.at_.c 7 _ rfl
 have hne:b≠w.heap.size:=by omega
 clear h
 have G0:=Hid.mk' (aA (World.grownBy_alloc w (.cells #[.int .i64 2,.int .i64 q,.int .i64 i.sh,.int .i64 i.nu,.float .f32 i.pl,.float .f32 i.sp,.int .i64 m.g,.int .i64 m.m,.int .i64 m.s,.int .i64 m.a,.int .i64 m.n,.slice ai ni ci,.slice ao no co] 139) none))
 have H0:=Hid.mk' (H.out.grown G0.out)
 obtain ⟨w9,hrun,m9,g9⟩:=H0.out.mp.drop i.sh i.nu ha hb
 have H9:Hid (HS w9 B b (s.doDestroy i) bd bm ov):=⟨H0.out.at_.only (Only.grown g9) (by simp;exact fun e=>H.out.n2 e),m9,World.ownsRow.kept H0.out.ob g9 (.inr H.out.n3),H.out.n1,H.out.n2,H.out.n3,Nat.le_trans H0.out.hB g9.size⟩
 have P9:Hid (Only w w9 (HS.foot b bm ov)):=(((Only.grown G0.out).mono (by simp))).trans ((Only.grown g9).mono (fun k _ e=>.inl (.inr (.inl (by injection e with e;exact e.symm)))))
 clear m9 g9
 unfold mW at hrun
 unfold rv
 go_enter func89,ntmps89
 go_wp2_with fail
 go_region
 all_goals
  go_wp2
  refine bodyPost_end (v:=.tuple #[]) (by simp[results,results89]) rfl ⟨rfl,H9.out,P9.out⟩
theorem aAD (B b bd bm:Nat)(ov:Value)(s:Sh)(q:Int)(i:It)(m:Mk)(ai ao:Option Addr)(ni ci no co:Nat)(w:World)(h:HS w B b s bd bm ov)(hi:DrInv s)(hl:s.th.length<=1000)(hn:∀x∈s.th,aS x.pl=true/\aS x.sp=true):
  Calls prog 89 #[.pointer (some ⟨b,0,none⟩),rv 3 q i m (.slice ai ni ci) (.slice ao no co)] w fun e w'=>e=.returned (.tuple #[])/\∃(ss:List It) (ov':Value),ss.Perm s.th/\Srt ss/\HS w' B b (ss.foldl Sh.driftOne s) bd bm ov'/\Only w w' (HS.foot b bm ov)/\(∀j,ov'.ownBlock=some j->ov.ownBlock=some j∨w.heap.size<=j):=by
 have G0:=Hid.mk' (World.grownBy_alloc w (.cells #[.int .i64 3,.int .i64 q,.int .i64 i.sh,.int .i64 i.nu,.float .f32 i.pl,.float .f32 i.sp,.int .i64 m.g,.int .i64 m.m,.int .i64 m.s,.int .i64 m.a,.int .i64 m.n,.slice ai ni ci,.slice ao no co] 139) none)
 have A:=Hid.mk' (xV B b bd bm ov s _ (h.grown G0.out) hi hl hn)
 clear h hi hl hn
 unfold rv
 go_enter func89,ntmps89
 go_wp2_with fail
 refine Calls.mono A.out ?_
 rintro e w1 ⟨rfl,ss,ov',hp,hs,h1,o1,v1⟩
 go_wp2
 refine bodyPost_end (v:=.tuple #[]) (by simp[results,results89]) rfl ⟨rfl,ss,ov',hp,hs,h1,((Only.grown G0.out).mono (by simp)).trans (o1.mono (fun _ _ e=>.inl e)),fun j hj=>?_⟩
 rcases v1 j hj with e | e
 ·exact .inl e
 ·simp at e;exact .inr (by omega)
end Go.Proofs.YtammnaafdhhjaaaGreat
namespace Go.Proofs.YtammnaafdhhjaaaGreat
open Go.RowKit Go.Proofs.Tryz
structure SU (w:World)(B b:Nat)(s:Sh)(bd bm:Nat)(ov:Value):Prop where
 hs:HS w B b s bd bm ov
 dk:At w bd s.dk.cells
 ok:s.dk.Ok
 d1:bd≠b
 d2:bd≠bm
 d3:ov.ownBlock≠some bd
theorem SU.grown {w w':World}{B b bd bm:Nat}{ov:Value}{s:Sh}(h:SU w B b s bd bm ov)(g:w.grownBy w' none):SU w' B b s bd bm ov:=
 ⟨h.hs.grown g,h.dk.grown g,h.ok,h.d1,h.d2,h.d3⟩
theorem HS.disk {w w':World}{B b bd bm:Nat}{ov:Value}{s:Sh}(h:HS w B b s bd bm ov)(o:Only w w' (fun j=>j=bd))(d1:bd≠b)(d2:bd≠bm)(d3:ov.ownBlock≠some bd):HS w' B b s bd bm ov:=
 ⟨h.at_.only o (fun e=>d1 e.symm),h.mp.only o (fun e=>d2 e.symm),o.own h.ob (fun j hj e=>d3 (by rw[<- e];exact hj)),h.n1,h.n2,h.n3,Nat.le_trans h.hB o.size⟩
end Go.Proofs.YtammnaafdhhjaaaGreat
namespace Go.Proofs.YtammnaafdhhjaaaGreat
open Go.RowKit Go.Proofs.Tryz
theorem xW (B b bd bm:Nat)(ov:Value)(s:Sh)(w:World)(h:HS w B b s bd bm ov)(hl:s.th.length<=1000):
  Calls prog 39 #[.pointer (some ⟨b,0,none⟩)] w fun e w'=>∃v,∃ss:List It,e=.returned v/\ss.Perm s.th/\Srt ss/\OwnI w.heap.size w' v ss/\w.grownBy w' none:=by
 have A:=Hid.mk' (lU b 7 bm s.th w (h.at_.c 7 _ rfl) h.mp hl)
 clear h hl
 go_enter func39,ntmps39
 go_wp2_with fail
 refine Calls.mono A.out ?_
 rintro e w1 ⟨v,ss,rfl,hp,hs,hr,g1⟩
 go_wp2
 go_ret
 exact ⟨v,ss,rfl,hp,hs,hr,g1⟩
theorem xX (b bd:Nat)(mv ov:Value)(s:Sh)(w:World)(h:At w b (s.cells bd mv ov)):
  Calls prog 41 #[.pointer (some ⟨b,0,none⟩)] w fun e w'=>e=.returned (.agg #[.int .i64 s.ms.g,.int .i64 s.ms.m,.int .i64 s.ms.s,.int .i64 s.ms.a,.int .i64 s.ms.n])/\w.grownBy w' none:=by
 have c9:=h.c 9 _ rfl
 have c10:=h.c 10 _ rfl
 have c11:=h.c 11 _ rfl
 have c12:=h.c 12 _ rfl
 have c13:=h.c 13 _ rfl
 have hbl:=h.lt
 have hne:b≠w.heap.size:=by omega
 clear h
 go_enter func41,ntmps41
 go_wp2
 exact bodyPost_ret (v:=.agg #[.int .i64 s.ms.g,.int .i64 s.ms.m,.int .i64 s.ms.s,.int .i64 s.ms.a,.int .i64 s.ms.n]) (by simp[results,results41,go_sem]) rfl ⟨rfl,World.grownBy_alloc _ _ _⟩
theorem aAE (b bd:Nat)(mv ov:Value)(s:Sh)(n:Int)(w:World)(h:At w b (s.cells bd mv ov))(hd:At w bd s.dk.cells):
  Calls prog 158 #[.pointer (some ⟨b,0,none⟩),.int .i64 n] w fun e w'=>e=.returned (.tuple #[.string (if n=0∨n=1 then S (s.dk.file n.toNat) else S []),.int .i64 (if n=0∨n=1 then 0 else 4)])/\w'=w:=by
 have c4:=h.c 4 _ rfl
 have hS:(⟨#[]⟩:ByteArray)=S []:=rfl
 by_cases h0:n<0
 ·rw[if_neg (by omega),if_neg (by omega)]
  clear h hd
  go_enter func158,ntmps158
  go_wp2
  go_ret2
  exact ⟨eG rfl rfl,rfl⟩
 ·have h0':decide (n<0)=false:=decide_eq_false h0
  by_cases h2:2<=n
  ·rw[if_neg (by omega),if_neg (by omega)]
   clear h hd
   go_enter func158,ntmps158
   go_wp2
   go_ret2
   exact ⟨eG rfl rfl,rfl⟩
  ·have h2':decide (2<=n)=false:=decide_eq_false h2
   rw[if_pos (by omega),if_pos (by omega)]
   obtain ⟨k,rfl⟩:∃k:Nat,n=(k:Int):=⟨n.toNat,by omega⟩
   have A:=Hid.mk' (eI bd s.dk k w hd (by omega))
   rw[Int.toNat_natCast]
   clear h hd
   go_enter func158,ntmps158
   go_wp2_with fail
   refine Calls.mono A.out ?_
   rintro e w1 ⟨rfl,rfl⟩
   go_wp2
   go_ret2
   exact ⟨eG rfl rfl,rfl⟩
theorem xY (b bd:Nat)(mv ov:Value)(s:Sh)(k keep:Int)(w:World)(h:At w b (s.cells bd mv ov))(hd:At w bd s.dk.cells):
  Calls prog 67 #[.pointer (some ⟨b,0,none⟩),.int .i64 k,.int .i64 keep] w fun e w'=>(k<0/\e=.returned (.int .i64 2)/\w'=w)∨(0<=k/\e=.returned (.int .i64 0)/\At w' bd ({s.dk with un:=k,kp:=keep}:Dk).cells/\Only w w' (fun j=>j=bd)):=by
 have c4:=h.c 4 _ rfl
 by_cases h0:k<0
 ·clear h hd
  go_enter func67,ntmps67
  go_wp2
  go_ret
  exact .inl ⟨h0,rfl,rfl⟩
 ·have A:=Hid.mk' (pS bd s.dk k keep w hd)
  clear h hd
  go_enter func67,ntmps67
  go_wp2_with fail
  refine Calls.mono A.out ?_
  rintro e w1 ⟨rfl,h1,o1⟩
  go_wp2
  go_ret
  exact .inr ⟨by omega,rfl,h1,o1⟩
theorem xZ (b bd:Nat)(mv ov:Value)(s:Sh)(keep:Int)(w:World)(h:At w b (s.cells bd mv ov))(hd:At w bd s.dk.cells)(ok:s.dk.Ok)(hne:bd≠b):
  Calls prog 44 #[.pointer (some ⟨b,0,none⟩),.int .i64 keep] w fun e w'=>e=.returned (.tuple #[])/\At w' b (s.down.cells bd (.map none) (.slice none 0 0))/\At w' bd (s.dk.crash keep).cells/\Only w w' (fun j=>j=b∨j=bd):=by
 have c4:=h.c 4 _ rfl
 have A:=Hid.mk' (pT bd s.dk keep w hd ok)
 have H:=Hid.mk' h
 clear h hd ok
 go_enter func44,ntmps44
 go_wp2_with fail
 refine Calls.mono A.out ?_
 rintro e w1 ⟨rfl,h1,o1⟩
 have H1:=Hid.mk' (H.out.only o1 (fun e=>hne e.symm))
 go_wp2_with fail
 refine Calls.mono (gP b s bd mv ov w1 H1.out) ?_
 rintro e w2 ⟨rfl,h2,o2⟩
 go_wp2
 refine bodyPost_end (v:=.tuple #[]) (by simp[results,results44]) rfl ⟨rfl,h2,h1.only o2 hne,(o1.mono (fun _ _ e=>.inr e)).trans (o2.mono (fun _ _ e=>.inl (.inl e)))⟩
end Go.Proofs.YtammnaafdhhjaaaGreat
namespace Go.Proofs.YtammnaafdhhjaaaGreat
open Go.RowKit Go.Proofs.Tryz
theorem yA (a:Addr)(n c:Nat)(W:World):(binOp BinOp.eql 49 (.slice (some a) n c) (.slice none 0 0)).run prog W=.ok (.bool false) W:=by
 kernel_rfl
theorem yB (W:World):(binOp BinOp.eql 49 (.slice none 0 0) (.slice none 0 0)).run prog W=.ok (.bool true) W:=by
 kernel_rfl
theorem aAF (B:Nat)(ov:Value)(es:List En)(w:World)(h:OwnE B w ov es)(hl:es.length<=1000):
  Calls prog 139 #[ov] w fun e w'=>∃v,e=.returned v/\OwnE w.heap.size w' v es/\w.grownBy w' none:=by
 have e1:=yB
 have e2:=yA
 have H:=Hid.mk' h
 obtain ⟨ao,co,rfl⟩:=aJ h
 clear h
 obtain ⟨n,hn⟩:∃n,es.length=n:=⟨_,rfl⟩
 have HN:=Hid.mk' hn
 have HH:Hid (w.ownsRow B 87 5 (.slice ao n co) n (es.flatMap En.cells)):=by
  have:=H.out
  unfold OwnE at this
  rw[hn] at this
  exact this
 rw[hn] at hl ⊢
 clear hn H
 cases ao with
 | none=>
  have hn0:n=0/\co=0:=by
   rcases HH.out.2 with ⟨h',h⟩ | ⟨g,cap,cur,h',_⟩
   ·injection h' with _ _ h'
    exact ⟨h,h'⟩
   ·cases h'
  obtain ⟨rfl,rfl⟩:=hn0
  have e0:es=[]:=List.eq_nil_of_length_eq_zero HN.out
  subst e0
  clear HH HN
  go_enter func139,ntmps139
  go_wp2
  go_ret
  exact ⟨_,rfl,OwnE.nil _ _,aD _ _⟩
 | some a=>
  obtain ⟨g,rfl⟩:∃g,a=⟨g,0,none⟩:=by
   rcases HH.out.2 with ⟨h',_⟩ | ⟨g,cap,cur,h',_⟩
   ·cases h'
   ·injection h' with h1
    injection h1 with h1
    exact ⟨g,h1⟩
  obtain ⟨iE,hiE,hz0,hz1,hz2⟩:=mG
  go_enter func139,ntmps139
  have OW:Hid ((w.alloc (.cells #[] 87)).ownsRow w.heap.size 87 5 (.slice (some ⟨w.heap.size,0,none⟩) 0 0) 0 []):=Hid.mk' ⟨rfl,.inr ⟨w.heap.size,0,#[],rfl,Nat.le_refl _,heap_alloc_new w _,Nat.le_refl _,by unfold maxLen;omega,rfl,rfl⟩⟩
  have NEWS:Hid (∀j u,(es.flatMap En.cells)[j]?=some u->(w.alloc (.cells #[] 87)).cell? (Addr.add ⟨g,0,none⟩ j)=some u):=Hid.mk' fun j u hu=>by
   have hj:j<n * 5:=by rw[<- HH.out.1];exact (List.getElem?_eq_some_iff.1 hu).1
   have:=HH.out.cellAt j hj
   rw[hu] at this
   have t:=(World.grownBy_alloc w (.cells #[] 87) none).cell (a:=⟨g,j,none⟩) this (by simp)
   by_cases h0:j=0
   ·subst h0
    simpa [Addr.add] using t
   ·simpa [Addr.add,h0] using t
  go_wp2_with (at_builtin;refine wpList_append_own_at _ rfl _ _ 49 rfl w.heap.size 87 iE _ 5 32 underlying49 hiE hz0 hz1 hz2 rfl (by omega) (.slice (some ⟨w.heap.size,0,none⟩) 0 0) 0 [] rfl OW.out ⟨g,0,none⟩ n co (es.flatMap En.cells) rfl HH.out.1 NEWS.out (aAe es) (by unfold maxLen;omega) (by omega) (by simp) ?_)
  intro v' w' r1 r2 _ r4
  go_wp2
  go_ret
  refine ⟨_,rfl,?_,?_⟩
  ·unfold OwnE
   rw[HN.out]
   exact r1
  ·exact nO (b:=w.heap.size) r2 (World.grownBy_alloc w _ none) (Nat.le_refl _)
theorem OwnE.lt {B:Nat}{w:World}{v:Value}{es:List En}(h:OwnE B w v es):∀j,v.ownBlock=some j->B<=j/\j<w.heap.size:=fun j hj=>by
 rcases h.2 with ⟨h',_⟩ | ⟨g,cap,cur,h',h1,h2,_⟩
 ·rw[h'] at hj;cases hj
 ·rw[h'] at hj
  injection hj with hj
  subst hj
  exact ⟨h1,(Array.getElem?_eq_some_iff.1 h2).1⟩
end Go.Proofs.YtammnaafdhhjaaaGreat
namespace Go.Proofs.YtammnaafdhhjaaaGreat
open Go.RowKit Go.Shelf Go.Lib Go.Sort Go.Proofs.Tryz
@[reducible] def lt (a b:It):Prop:=a.sh<b.sh∨(a.sh=b.sh/\a.nu<b.nu)
theorem aFE (a b:It):ltOf lT a b=true↔lt a b:=by
 rw[aBO];unfold lt;simp
theorem rZ (a b:It):fO a.sh a.nu b.sh b.nu<0↔lt a b:=by
 rw[<- aFE];unfold ltOf lT;exact decide_eq_true_iff.symm
theorem aJa (a:It):¬lt a a:=by unfold lt;omega
theorem aID {a b c:It}(h:lt a b)(h':lt b c):lt a c:=by unfold lt at *;omega
theorem aFF {a b:It}(h:¬a.same b):lt a b∨lt b a:=by unfold lt It.same at *;omega
theorem pX {a b:It}(h:lt a b):¬a.same b:=by unfold lt It.same at *;omega
def iH (x:It):List It->List It
 | []=>[x]
 | y::r=>if lt x y then x::y::r else y::iH x r
def vS (l:List It):Prop:=l.Pairwise lt
theorem iW (x:It):∀l:List It,(iH x l).Perm (x::l)
 | []=>.refl _
 | y::r=>by
  unfold iH
  split
  ·exact .refl _
  ·exact ((iW x r).cons y).trans (.swap x y r)
theorem lV {x:It}:∀{l:List It},vS l->(∀y∈l,¬y.same x)->vS (iH x l)
 | [],_,_=>by simp[iH,vS]
 | y::r,h,hn=>by
  have h':=List.pairwise_cons.1 h
  unfold iH
  split
  ·rename_i hx
   refine List.pairwise_cons.2 ⟨fun z hz=>?_,h⟩
   rcases List.mem_cons.1 hz with rfl | hz
   ·exact hx
   ·exact aID hx (h'.1 z hz)
  ·rename_i hx
   refine List.pairwise_cons.2 ⟨fun z hz=>?_,lV h'.2 (fun z hz=>hn z (.tail _ hz))⟩
   rcases List.mem_cons.1 ((iW x r).mem_iff.1 hz) with rfl | hz
   ·exact (aFF (hn y (.head _))).resolve_right hx
   ·exact h'.1 z hz
theorem vU:∀{l m:List It},vS l->vS m->l.Perm m->l=m
 | [],m,_,_,p=>(List.nil_perm.1 p).symm
 | x::l,[],_,_,p=>absurd (List.perm_nil.1 p) (by simp)
 | x::l,y::m,hl,hm,p=>by
  have h1:=List.pairwise_cons.1 hl
  have h2:=List.pairwise_cons.1 hm
  have e:x=y:=by
   rcases List.mem_cons.1 (p.mem_iff.1 (List.mem_cons_self ..)) with e | hx
   ·exact e
   ·rcases List.mem_cons.1 (p.mem_iff.2 (List.mem_cons_self ..)) with e | hy
    ·exact e.symm
    ·exact absurd (aID (h1.1 y hy) (h2.1 x hx)) (aJa _)
  subst e
  rw[vU h1.2 h2.2 (List.Perm.cons_inv p)]
def cH (l:List It):List It:=l.foldr iH []
theorem bG:∀l:List It,(cH l).Perm l
 | []=>.refl _
 | x::r=>(iW x (cH r)).trans ((bG r).cons x)
theorem fS:∀{l:List It},l.Pairwise (fun a b=>¬a.same b)->vS (cH l)
 | [],_=>.nil
 | x::r,h=>by
  have h':=List.pairwise_cons.1 h
  refine lV (fS h'.2) (fun y hy=>?_)
  have:=h'.1 y ((bG r).mem_iff.1 hy)
  unfold It.same at *
  omega
theorem aHw {l:List It}(h:Srt l)(nd:l.Pairwise (fun a b=>¬a.same b)):vS l:=by
 unfold Srt at h
 refine (List.Pairwise.and h nd).imp ?_
 rintro a b ⟨h1,h2⟩
 rcases aFF h2 with h3 | h3
 ·exact h3
 ·rw[(aFE b a).2 h3] at h1
  cases h1
theorem mN {l m:List It}(p:l.Perm m)(h:m.Pairwise (fun a b=>¬a.same b)):l.Pairwise (fun a b=>¬a.same b):=
 p.symm.pairwise h (fun {a b} hab=>by unfold It.same at *;omega)
theorem nP {l th:List It}(h:Srt l)(p:l.Perm th)(nd:th.Pairwise (fun a b=>¬a.same b)):l=cH th:=
 vU (aHw h (mN p nd)) (fS nd) (p.trans (bG th).symm)
theorem yC {l:List It}(h:vS l):cH l=l:=
 vU (fS (h.imp pX)) h (bG l)
end Go.Proofs.YtammnaafdhhjaaaGreat
namespace Go.Proofs.YtammnaafdhhjaaaGreat
theorem sA:∀(f:Nat) (l:List UInt8),(pR f l).length<=f
 | 0,l=>by simp[pR]
 | f+1,l=>by
  unfold pR
  split
  ·have:=sA f (l.drop (2+(frame l).length))
   simp
   omega
  ·simp
theorem gQ (l:List UInt8):(aR l).length<=l.length:=sA _ _
theorem yD:∀(f:Nat) (l:List UInt8),(oD f l).2<=l.length
 | 0,l=>by simp[oD]
 | f+1,l=>by
  unfold oD
  split
  ·rename_i h
   have h1:=tP l h.1
   have h2:=yD f (l.drop (2+(frame l).length))
   rw[List.length_drop] at h2
   simp only
   omega
  ·simp
theorem lW (l:List UInt8):(bK l).2<=l.length:=yD _ _
structure Told (r:Rc):Prop where
 m:aP r=true
 wf:WfR r
theorem aFG {r:Rc}(h:Told r)(l:List UInt8):lF (aY r++l)=true/\frame (aY r++l)=enc r:=by
 have hl:=(dM r h.m).2
 have e:aY r++l=n2 ((enc r).length:Int)++(enc r++l):=by unfold aY;rw[List.append_assoc]
 have hb:b2 (aY r++l)=((enc r).length:Int):=by rw[e,jR _ _ (by omega) (by omega)]
 have ht:t2 (aY r++l)=enc r++l:=by rw[e,hU]
 constructor
 ·unfold lF
  rw[hb,ht]
  have:2<=(aY r++l).length:=by rw[e];simp[n2]
  rw[decide_eq_true this,decide_eq_true (by simp;omega)]
  rfl
 ·unfold frame
  rw[hb,ht]
  simp
theorem gR (r:Rc):(aY r).length=2+(enc r).length:=by unfold aY;simp[n2];omega
theorem aFH {r:Rc}(h:Told r)(l:List UInt8):aR (aY r++l)=r::aR l/\(bK (aY r++l)).2=(aY r).length+(bK l).2:=by
 obtain ⟨h1,h2⟩:=aFG h l
 have h3:cV (frame (aY r++l))=true:=by rw[h2];exact aEF r h.m h.wf
 have hd:(aY r++l).drop (2+(enc r).length)=l:=by
  rw[<- gR,List.drop_left]
 constructor
 ·rw[pE _ ⟨h1,h3⟩,h2,aBB r h.m h.wf,hd]
 ·rw[pD _ ⟨h1,h3⟩,h2,hd,gR]
def dE (rs:List Rc):List UInt8:=rs.flatMap aY
theorem mO:∀{rs:List Rc} (_:∀r∈rs,Told r) (l:List UInt8),aR (dE rs++l)=rs++aR l/\(bK (dE rs++l)).2=(dE rs).length+(bK l).2
 | [],_,l=>by simp[dE]
 | r::rs,h,l=>by
  have h1:=aFH (h r (.head _)) (dE rs++l)
  have h2:=mO (rs:=rs) (fun x hx=>h x (.tail _ hx)) l
  have e:dE (r::rs)++l=aY r++(dE rs++l):=by simp[dE]
  rw[e,h1.1,h1.2,h2.1,h2.2]
  refine ⟨by simp,?_⟩
  simp[dE]
  omega
theorem scan_nil:aR []=[]/\(bK []).2=0:=⟨iZ [] (by simp[lF]),by rw[iY [] (by simp[lF])]⟩
theorem yE {r:Rc}(h:Told r)(n:Nat)(hn:n<(aY r).length):aR ((aY r).take n)=[]/\(bK ((aY r).take n)).2=0:=by
 have hl:=(dM r h.m).2
 have no:¬(lF ((aY r).take n)=true/\cV (frame ((aY r).take n))=true):=by
  rintro ⟨h1,_⟩
  unfold lF at h1
  rw[Bool.and_eq_true] at h1
  have k1:=of_decide_eq_true h1.1
  have k2:=of_decide_eq_true h1.2
  rw[List.length_take,Nat.min_eq_left (by omega)] at k1
  obtain ⟨m,rfl⟩:∃m,n=m+2:=⟨n -2,by omega⟩
  have e:(aY r).take (m+2)=n2 ((enc r).length:Int)++(enc r).take m:=by
   unfold aY
   rw[show n2 ((enc r).length:Int)=[u8 (((enc r).length:Int) / 256),u8 (((enc r).length:Int) % 256)] from rfl]
   rfl
  rw[e,jR _ _ (by omega) (by omega),hU] at k2
  rw[gR] at hn
  rw[List.length_take] at k2
  omega
 exact ⟨iZ _ no,by rw[iY _ no]⟩
theorem nQ {rs:List Rc}(hr:∀r∈rs,Told r):aR (dE rs)=rs/\(bK (dE rs)).2=(dE rs).length:=by
 have:=mO hr []
 rw[scan_nil.1,scan_nil.2] at this
 simpa using this
end Go.Proofs.YtammnaafdhhjaaaGreat
namespace Go.Proofs.YtammnaafdhhjaaaGreat
open Go.RowKit Go.Proofs.Tryz
def kN (no:Nat)(vi vo:Value)(m:Mk):List Value:=[.int .i64 no,vi,vo,.int .i64 m.g,.int .i64 m.m,.int .i64 m.s,.int .i64 m.a,.int .i64 m.n]
theorem aBP (x:It):∀p:List It,(∀z∈p,¬lt x z)->iH x p=p++[x]
 | [],_=>rfl
 | y::r,h=>by
  show (if lt x y then _ else _)=_
  rw[if_neg (h y (.head _)),aBP x r (fun z hz=>h z (.tail _ hz))]
  rfl
theorem aBQ (x y:It)(q:List It):∀p:List It,(∀z∈p,¬lt x z)->lt x y->iH x (p++y::q)=p++x::y::q
 | [],_,h=>if_pos h
 | z::r,h,hy=>by
  show (if lt x z then _ else _)=_
  rw[if_neg (h z (.head _))]
  show z::iH x (r++y::q)=_
  rw[aBQ x y q r (fun z hz=>h z (.tail _ hz)) hy]
  rfl
theorem yF (x:It)(q:List It):∀p:List It,(∃z∈p,lt x z)->iH x (p++q)=iH x p++q
 | [],h=>by obtain ⟨z,hz,_⟩:=h;simp at hz
 | y::r,h=>by
  show (if lt x y then _ else _)=(if lt x y then _ else _)++q
  split
  ·rfl
  ·rename_i hy
   obtain ⟨z,hz,h⟩:=h
   rcases List.mem_cons.1 hz with rfl | hz
   ·exact absurd h hy
   ·show y::iH x (r++q)=y::(iH x r++q)
    rw[yF x q r ⟨z,hz,h⟩]
theorem yG (x:It):∀p:List It,(iH x p).length=p.length+1
 | []=>rfl
 | y::r=>by
  show (if lt x y then _ else _:List It).length=_
  split
  ·rfl
  ·simp[yG x r]
def Adds (x:It)(l:List It)(k:Nat)(d:Bool)(L:List It):Prop:=
 (d=false/\L=l.take k/\∀y∈l.take k,¬lt x y)∨(d=true/\L=iH x (l.take k)/\∃y∈l.take k,lt x y)
theorem Adds.len {x:It}{l:List It}{k:Nat}{d:Bool}{L:List It}(h:Adds x l k d L):L.length<=l.length+1:=by
 rcases h with ⟨_,rfl,_⟩ | ⟨_,rfl,_⟩
 ·rw[List.length_take];omega
 ·rw[yG,List.length_take];omega
theorem Adds.stay {x y:It}{l L:List It}{k:Nat}{d:Bool}(h:Adds x l k d L)(hk:l.take (k+1)=l.take k++[y])(hn:d=false->¬lt x y):Adds x l (k+1) d (L++[y]):=by
 rcases h with ⟨rfl,rfl,h⟩ | ⟨rfl,rfl,h⟩
 ·refine .inl ⟨rfl,hk.symm,fun z hz=>?_⟩
  rw[hk] at hz
  rcases List.mem_append.1 hz with hz | hz
  ·exact h z hz
  ·rw[List.mem_singleton.1 hz];exact hn rfl
 ·refine .inr ⟨rfl,?_,?_⟩
  ·rw[hk,yF x [y] _ h]
  ·obtain ⟨z,hz,h⟩:=h
   exact ⟨z,by rw[hk];exact List.mem_append_left _ hz,h⟩
theorem Adds.lay {x y:It}{l L:List It}{k:Nat}(h:Adds x l k false L)(hk:l.take (k+1)=l.take k++[y])(hy:lt x y):Adds x l (k+1) true (L++[x]++[y]):=by
 rcases h with ⟨_,rfl,h⟩ | ⟨h,_⟩
 ·refine .inr ⟨rfl,?_,y,by rw[hk];simp,hy⟩
  rw[hk,aBQ x y [] _ h hy]
  simp
 ·cases h
theorem Adds.all {x:It}{l L:List It}{d:Bool}{k:Nat}(h:Adds x l k d L)(hk:l.length=k):(d=true->L=iH x l)/\(d=false->L++[x]=iH x l):=by
 subst hk
 rcases h with ⟨rfl,rfl,h⟩ | ⟨rfl,rfl,h⟩
 ·rw[List.take_length] at h ⊢
  exact ⟨fun h=>absurd h (by simp),fun _=>(aBP x l h).symm⟩
 ·rw[List.take_length]
  exact ⟨fun _=>rfl,fun h=>absurd h (by simp)⟩
theorem aBR (no b:Nat)(l:List It)(x:It)(vi vo:Value)(m:Mk)(w:World)(h:At w b (kN no vi vo m))(hi:bH w vi l)(hl:l.length<=1000)(hx:pA x.sh x.nu=true)(hids:∀y∈l,pA y.sh y.nu=true):
  Calls prog 149 #[.pointer (some ⟨b,0,none⟩),.agg #[.int .i64 x.sh,.int .i64 x.nu,.float .f32 x.pl,.float .f32 x.sp]] w fun e w'=>e=.returned (.tuple #[])/\∃v',At w' b (kN no v' vo m)/\OwnI w.heap.size w' v' (iH x l)/\Only w w' (fun j=>j=b):=by
 obtain ⟨a,c,rfl,hxx⟩:=hi
 have hbl:=h.lt
 obtain ⟨n,hL⟩:∃n,l.length=n:=⟨_,rfl⟩
 rw[hL] at hl hxx h
 have HL:Hid (l.length=n):=hL
 have HX:=Hid.mk' hxx
 have H:=Hid.mk' h
 have HD:=Hid.mk' hids
 have hq:=jZ hx
 have hsf:=aK
 have G0:Hid (w.grownBy (w.alloc (.cells #[.int .i64 x.sh,.int .i64 x.nu,.float .f32 x.pl,.float .f32 x.sp] 75)) none):=World.grownBy_alloc w _ none
 have A0:Hid (At (w.alloc (.cells #[.int .i64 x.sh,.int .i64 x.nu,.float .f32 x.pl,.float .f32 x.sp] 75)) w.heap.size [.int .i64 x.sh,.int .i64 x.nu,.float .f32 x.pl,.float .f32 x.sp]):=Hid.mk' (At.new w [.int .i64 x.sh,.int .i64 x.nu,.float .f32 x.pl,.float .f32 x.sp] 75)
 clear hL hxx h hids hx
 go_enter func149,ntmps149
 go_wp2
 go_loopw [4,5,6] (fun v d i wr=>∃(k:Nat) (D:Bool) (L:List It),k<=n/\i=.int .i64 k/\d=.bool D/\(w.alloc (.cells #[.int .i64 x.sh,.int .i64 x.nu,.float .f32 x.pl,.float .f32 x.sp] 75)).grownBy wr none/\OwnI (w.heap.size+1) wr v L/\Adds x l k D L) (fun _ _ i _=>n -(intOf i).toNat)
 case atStart=>exact ⟨0,false,[],by omega,rfl,rfl,aD _ _,OwnI.nil _ _,.inl ⟨rfl,rfl,by simp⟩⟩
 case round=>
  obtain ⟨k,D,L,hk,rfl,rfl,gk,ok,ad⟩:=hrel
  have GK:=Hid.mk' gk
  have OK:=Hid.mk' ok
  have AD:=Hid.mk' ad
  have LL:=ad.len
  rw[HL.out] at LL
  have zk:w.heap.size+1<=wr.heap.size:=by have:=gk.size;simpa using this
  have AT:=Hid.mk' (H.out.grown (G0.out.trans gk))
  have AX:=Hid.mk' (A0.out.grown gk)
  have s1:=AT.out.c 1 _ rfl
  have x0:=AX.out.c 0 _ rfl
  have x1:=AX.out.c 1 _ rfl
  have x2:=AX.out.c 2 _ rfl
  have x3:=AX.out.c 3 _ rfl
  have af:=AT.out.f 1
  have HV:Hid (∀j,Value.ownBlock _=some j->w.heap.size+1<=j):=fun j hj=>(OK.out.lt j hj).1
  clear gk ok ad
  by_cases hlt:k<n
  ·have hkl:k<l.length:=by rw[HL.out];exact hlt
   obtain ⟨g,off,rfl,hc⟩:=HX.out (by omega)
   obtain ⟨y,hi⟩:∃y,l[k]=y:=⟨_,rfl⟩
   have d:∀j (hj:j<4) u,y.cells[j]?=some u->wr.cell? ⟨g,off+k * 4+j,none⟩=some u:=fun j hj u hu=>by
    have:=hc (4 * k+j) u (by rw[cQ l k j hkl hj,hi];exact hu)
    rw[show off+(4 * k+j)=off+k * 4+j by omega] at this
    exact (G0.out.trans GK.out).cell this (by simp)
   have d0:=d 0 (by omega) _ rfl
   have d1:=d 1 (by omega) _ rfl
   have d2:=d 2 (by omega) _ rfl
   have d3:=d 3 (by omega) _ rfl
   rw[Nat.add_zero] at d0
   have HI:=Hid.mk' hi
   have hgl:g<w.heap.size:=World.block_lt_of_cell? w _ (hc (4 * k) _ (by rw[show 4 * k=4 * k+0 by omega,cQ l k 0 hkl (by omega)];rfl))
   have hy:=jZ (HD.out y (by rw[<- hi];exact List.getElem_mem hkl))
   clear d hc hi
   have y0:(0:Int)<=(k:Int):=by omega
   have y1:(k:Int)<(n:Int):=by omega
   have TK:Hid (l.take (k+1)=l.take k++[y]):=by
    show _=_
    rw[List.take_succ_eq_append_getElem hkl,HI.out]
   have AH0:=Hid.mk' fun W=>tT x.sh x.nu y.sh y.nu W hq.1 hq.2.1 hq.2.2.1 hq.2.2.2 hy.1 hy.2.1 hy.2.2.1 hy.2.2.2
   clear hq hy
   by_cases hb:lt x y
   ·skip
    have AH:Hid (∀W:World,Calls prog 174 #[.agg #[.int .i64 x.sh,.int .i64 x.nu],.agg #[.int .i64 y.sh,.int .i64 y.nu]] W fun e w'=>e=.returned (.bool true)/\W.grownBy w' none):=Hid.mk' fun W=>by
     have:=AH0.out W
     rwa [decide_eq_true ((rZ x y).2 hb)] at this
    clear AH0
    go_wp2_with fail
    refine wp_region_held_drew (S:=fun w'=>At w' b (kN no (.slice (some ⟨g,off,none⟩) n c) vo m)/\At w' w.heap.size [.int .i64 x.sh,.int .i64 x.nu,.float .f32 x.pl,.float .f32 x.sp]/\w'.cell? ⟨g,off+k * 4,none⟩=some (.int .i64 y.sh)/\w'.cell? ⟨g,off+k * 4+1,none⟩=some (.int .i64 y.nu)) (by kernel_rfl) (⟨AT.out.drew,AX.out.drew,by go_simp,by go_simp⟩) (fun hHeld=>?_)
    refine aN 0 ?_
    simp only[aF]
    refine dG 1 rfl (by intro w hSw;have S0:=hSw.2.1.c 0 _ rfl;have S1:=hSw.2.1.c 1 _ rfl;go_simp;try with_reducible rfl) ?_
    simp only[aF]
    refine aN 2 ?_
    simp only[aF]
    refine aN 3 ?_
    simp only[aF]
    refine aN 4 ?_
    simp only[aF]
    refine bV 5 (fun _ h=>h.1.c 1 _ rfl) ?_
    simp only[aF]
    refine aN 6 ?_
    simp only[aF]
    refine aN 7 ?_
    simp only[aF]
    refine aN 8 ?_
    simp only[aF]
    refine dG 9 rfl (by intro w hSw;have S0:=hSw.2.2.1;have S1:=hSw.2.2.2;go_simp;try with_reducible rfl) ?_
    simp only[aF]
    refine aX 10 (f:=174) (args:=#[.agg #[.int .i64 x.sh,.int .i64 x.nu],.agg #[.int .i64 y.sh,.int .i64 y.nu]]) (by kernel_rfl) (by rfl) (by rfl) (by go_simp) ?_
    refine Calls.mono (AH.out _) ?_
    rintro e w1 ⟨rfl,g1⟩
    have G1:=Hid.mk' (GK.out.trans ((aA (aD _ _)).trans g1))
    have h1:=hHeld
    clear hHeld
    have hHeld:At w1 b (kN no (.slice (some ⟨g,off,none⟩) n c) vo m)/\At w1 w.heap.size [.int .i64 x.sh,.int .i64 x.nu,.float .f32 x.pl,.float .f32 x.sp]/\w1.cell? ⟨g,off+k * 4,none⟩=some (.int .i64 y.sh)/\w1.cell? ⟨g,off+k * 4+1,none⟩=some (.int .i64 y.nu):=⟨h1.1.grown g1,h1.2.1.grown g1,g1.cell h1.2.2.1 (by simp),g1.cell h1.2.2.2 (by simp)⟩
    refine ⟨_,rfl,hHeld,?_⟩
    simp only[aF]
    refine aN 11 ?_
    simp only[aF]
    refine wpAnyH_done (by kernel_rfl) ?_ _
    have OK1:=Hid.mk' (aO OK.out ((aA (aD _ _)).trans g1))
    have AT1:=Hid.mk' hHeld.1
    have s1':=hHeld.1.c 1 _ rfl
    have X0:=hHeld.2.1.c 0 _ rfl
    have X1:=hHeld.2.1.c 1 _ rfl
    have X2:=hHeld.2.1.c 2 _ rfl
    have X3:=hHeld.2.1.c 3 _ rfl
    have e0:=hHeld.2.2.1
    have e1:=hHeld.2.2.2
    have e2:=g1.cell (d2:wr.drew.cell? _=_) (by simp)
    have e3:=g1.cell (d3:wr.drew.cell? _=_) (by simp)
    have z1:w.heap.size+1<=w1.heap.size:=by have:=g1.size;simp at this;omega
    clear s1 x0 x1 x2 x3 d0 d1 d2 d3 hHeld h1 g1 AT AX GK OK af zk
    cases D
    ·go_wp2_with (first | (at_builtin;refine fK rfl _ _ rfl (w.heap.size+1) _ L rfl (World.ownsRow.alloc OK1.out _) ⟨w1.heap.size,0,none⟩ x rfl (aW w1 x.cells _ _ rfl) (by simp;omega) (by simp;omega) ?_;intro v2 w2 o2 g2 h2;have GA:=(World.grownBy_alloc w1 (.cells #[.int .i64 x.sh,.int .i64 x.nu,.float .f32 x.pl,.float .f32 x.sp] 75) _).trans g2;have t1:=GA.cell s1' (fun e=>by have:=HV.out _ e.symm;simp at this;omega);have t2:=GA.cell e0 (fun e=>by have:=HV.out _ e.symm;simp at this;omega);have t3:=GA.cell e1 (fun e=>by have:=HV.out _ e.symm;simp at this;omega);have t4:=GA.cell e2 (fun e=>by have:=HV.out _ e.symm;simp at this;omega);have t5:=GA.cell e3 (fun e=>by have:=HV.out _ e.symm;simp at this;omega);have z2:=GA.size;have O2:=Hid.mk' o2;have H2:=Hid.mk' h2;have GG:=Hid.mk' GA;clear g2 GA h2 o2 s1' e0 e1 e2 e3) | (at_builtin;refine fK rfl _ _ rfl (w.heap.size+1) _ (L++[x]) rfl (World.ownsRow.alloc O2.out _) ⟨w2.heap.size,0,none⟩ y rfl (aW w2 y.cells _ _ rfl) (by simp;omega) (by simp;omega) ?_;intro v3 w3 o3 g3 h3))
     go_wp2
     go_roundw
     case rel=>exact ⟨k+1,true,_,by omega,by go_num,rfl,dL g3 ((dL GG.out G1.out (fun j hj=>by have:=HV.out j hj;simp;omega)).trans (World.grownBy_alloc _ _ none)) (fun j hj=>by have:=O2.out.lt j hj;simp;omega),o3,AD.out.lay TK.out hb⟩
     case measure=>simp[intOf];omega
    ·go_wp2_with (at_builtin;refine fK rfl _ _ rfl (w.heap.size+1) _ (L) rfl (World.ownsRow.alloc OK1.out _) ⟨w1.heap.size,0,none⟩ y rfl (aW w1 y.cells _ _ rfl) (by simp;omega) (by simp;omega) ?_;intro v3 w3 o3 g3 h3)
     go_wp2
     go_roundw
     case rel=>exact ⟨k+1,true,_,by omega,by go_num,rfl,dL g3 (G1.out.trans (World.grownBy_alloc _ _ none)) (fun j hj=>by have:=HV.out j hj;simp;omega),o3,AD.out.stay TK.out (fun h=>absurd h (by simp))⟩
     case measure=>simp[intOf];omega
   ·skip
    have AH:Hid (∀W:World,Calls prog 174 #[.agg #[.int .i64 x.sh,.int .i64 x.nu],.agg #[.int .i64 y.sh,.int .i64 y.nu]] W fun e w'=>e=.returned (.bool false)/\W.grownBy w' none):=Hid.mk' fun W=>by
     have:=AH0.out W
     rwa [decide_eq_false (fun h=>hb ((rZ x y).1 h))] at this
    clear AH0
    go_wp2_with fail
    refine wp_region_held_drew (S:=fun w'=>At w' b (kN no (.slice (some ⟨g,off,none⟩) n c) vo m)/\At w' w.heap.size [.int .i64 x.sh,.int .i64 x.nu,.float .f32 x.pl,.float .f32 x.sp]/\w'.cell? ⟨g,off+k * 4,none⟩=some (.int .i64 y.sh)/\w'.cell? ⟨g,off+k * 4+1,none⟩=some (.int .i64 y.nu)) (by kernel_rfl) (⟨AT.out.drew,AX.out.drew,by go_simp,by go_simp⟩) (fun hHeld=>?_)
    refine aN 0 ?_
    simp only[aF]
    refine dG 1 rfl (by intro w hSw;have S0:=hSw.2.1.c 0 _ rfl;have S1:=hSw.2.1.c 1 _ rfl;go_simp;try with_reducible rfl) ?_
    simp only[aF]
    refine aN 2 ?_
    simp only[aF]
    refine aN 3 ?_
    simp only[aF]
    refine aN 4 ?_
    simp only[aF]
    refine bV 5 (fun _ h=>h.1.c 1 _ rfl) ?_
    simp only[aF]
    refine aN 6 ?_
    simp only[aF]
    refine aN 7 ?_
    simp only[aF]
    refine aN 8 ?_
    simp only[aF]
    refine dG 9 rfl (by intro w hSw;have S0:=hSw.2.2.1;have S1:=hSw.2.2.2;go_simp;try with_reducible rfl) ?_
    simp only[aF]
    refine aX 10 (f:=174) (args:=#[.agg #[.int .i64 x.sh,.int .i64 x.nu],.agg #[.int .i64 y.sh,.int .i64 y.nu]]) (by kernel_rfl) (by rfl) (by rfl) (by go_simp) ?_
    refine Calls.mono (AH.out _) ?_
    rintro e w1 ⟨rfl,g1⟩
    have G1:=Hid.mk' (GK.out.trans ((aA (aD _ _)).trans g1))
    have h1:=hHeld
    clear hHeld
    have hHeld:At w1 b (kN no (.slice (some ⟨g,off,none⟩) n c) vo m)/\At w1 w.heap.size [.int .i64 x.sh,.int .i64 x.nu,.float .f32 x.pl,.float .f32 x.sp]/\w1.cell? ⟨g,off+k * 4,none⟩=some (.int .i64 y.sh)/\w1.cell? ⟨g,off+k * 4+1,none⟩=some (.int .i64 y.nu):=⟨h1.1.grown g1,h1.2.1.grown g1,g1.cell h1.2.2.1 (by simp),g1.cell h1.2.2.2 (by simp)⟩
    refine ⟨_,rfl,hHeld,?_⟩
    simp only[aF]
    refine aN 11 ?_
    simp only[aF]
    refine wpAnyH_done (by kernel_rfl) ?_ _
    have OK1:=Hid.mk' (aO OK.out ((aA (aD _ _)).trans g1))
    have AT1:=Hid.mk' hHeld.1
    have s1':=hHeld.1.c 1 _ rfl
    have X0:=hHeld.2.1.c 0 _ rfl
    have X1:=hHeld.2.1.c 1 _ rfl
    have X2:=hHeld.2.1.c 2 _ rfl
    have X3:=hHeld.2.1.c 3 _ rfl
    have e0:=hHeld.2.2.1
    have e1:=hHeld.2.2.2
    have e2:=g1.cell (d2:wr.drew.cell? _=_) (by simp)
    have e3:=g1.cell (d3:wr.drew.cell? _=_) (by simp)
    have z1:w.heap.size+1<=w1.heap.size:=by have:=g1.size;simp at this;omega
    clear s1 x0 x1 x2 x3 d0 d1 d2 d3 hHeld h1 g1 AT AX GK OK af zk
    cases D
    ·go_wp2_with (at_builtin;refine fK rfl _ _ rfl (w.heap.size+1) _ (L) rfl (World.ownsRow.alloc OK1.out _) ⟨w1.heap.size,0,none⟩ y rfl (aW w1 y.cells _ _ rfl) (by simp;omega) (by simp;omega) ?_;intro v3 w3 o3 g3 h3)
     go_wp2
     go_roundw
     case rel=>exact ⟨k+1,false,_,by omega,by go_num,rfl,dL g3 (G1.out.trans (World.grownBy_alloc _ _ none)) (fun j hj=>by have:=HV.out j hj;simp;omega),o3,AD.out.stay TK.out (fun _=>hb)⟩
     case measure=>simp[intOf];omega
    ·go_wp2_with (at_builtin;refine fK rfl _ _ rfl (w.heap.size+1) _ (L) rfl (World.ownsRow.alloc OK1.out _) ⟨w1.heap.size,0,none⟩ y rfl (aW w1 y.cells _ _ rfl) (by simp;omega) (by simp;omega) ?_;intro v3 w3 o3 g3 h3)
     go_wp2
     go_roundw
     case rel=>exact ⟨k+1,true,_,by omega,by go_num,rfl,dL g3 (G1.out.trans (World.grownBy_alloc _ _ none)) (fun j hj=>by have:=HV.out j hj;simp;omega),o3,AD.out.stay TK.out (fun h=>absurd h (by simp))⟩
     case measure=>simp[intOf];omega
  ·have hkn:k=n:=by omega
   subst hkn
   have AL:=Hid.mk' (AD.out.all HL.out)
   have fin:Hid (∀(v':Value) (w':World) (L':List It),At w' b (kN no (.slice a k c) vo m)->OwnI (w.heap.size+1) w' v' L'->w.grownBy w' none->At (w'.setCell ⟨b,1,none⟩ v') b (kN no v' vo m)/\OwnI w.heap.size (w'.setCell ⟨b,1,none⟩ v') v' L'/\Only w (w'.setCell ⟨b,1,none⟩ v') (fun j=>j=b)):=Hid.mk' fun v' w' L' h1 h2 h3=>by
    refine ⟨h1.put 1 v' (by simp[kN]),bP (aH h2 b 1 v' (fun e=>by have:=(h2.lt b e).1;omega)) (by omega),?_⟩
    exact ((Only.grown h3).mono (by simp)).trans ((Only.set w' b 1 v').mono (fun _ _ e=>.inl e))
   cases D
   ·go_wp2_with (at_builtin;refine fK rfl _ _ rfl (w.heap.size+1) _ L rfl (World.ownsRow.alloc OK.out _) ⟨wr.heap.size,0,none⟩ x rfl (aW wr x.cells _ _ rfl) (by simp;omega) (by simp;omega) ?_;intro v2 w2 o2 g2 h2;have GA:=(World.grownBy_alloc wr (.cells #[.int .i64 x.sh,.int .i64 x.nu,.float .f32 x.pl,.float .f32 x.sp] 75) _).trans g2;have A2:=AT.out.only (Only.grown GA) (fun e=>by have:=HV.out _ e;omega);have AA:=Hid.mk' A2;have t1:=A2.c 1 _ rfl;have t2:=A2.f 1;obtain ⟨a2,c2,rfl⟩:=aJ o2;have O2:=Hid.mk' o2;have GG:=Hid.mk' GA;clear g2 GA h2 o2 s1 A2 af)
    go_wp2
    refine bodyPost_end (v:=.tuple #[]) (by simp[results,results149]) rfl ?_
    have q:=fin.out _ w2 _ AA.out O2.out (G0.out.trans (dL GG.out GK.out (fun j hj=>by have:=HV.out j hj;simp;omega)))
    simp only[List.length_append,List.length_singleton] at q
    exact ⟨rfl,_,q.1,by rw[<- AL.out.2 (by simp)];exact q.2.1,q.2.2⟩
   ·obtain ⟨av,cv,rfl⟩:=aJ OK.out
    go_wp2
    refine bodyPost_end (v:=.tuple #[]) (by simp[results,results149]) rfl ?_
    have q:=fin.out _ wr _ AT.out OK.out (G0.out.trans GK.out)
    exact ⟨rfl,_,q.1,by rw[<- AL.out.1 (by simp)];exact q.2.1,q.2.2⟩
end Go.Proofs.YtammnaafdhhjaaaGreat
