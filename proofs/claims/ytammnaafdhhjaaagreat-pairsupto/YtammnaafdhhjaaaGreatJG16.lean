import Derived.Test.YtammnaafdhhjaaaGreatJG13
set_option maxHeartbeats 16000000
set_option maxRecDepth 100000
namespace Go.Proofs.YtammnaafdhhjaaaGreat
open Go.RowKit Go.Proofs.Tryz
theorem vV (B b bd bm:Nat)(ov:Value)(s:Sh)(r:Rc)(w:World)(h:SU w B b s bd bm ov)(hr:r.items=[]/\r.outs=[])(hm:aP r=true)(wf:WfR r)(hct:s.ct<2)(hcj:s.cJ<=5000)(hc:s.cJ<((s.dk.file s.ct).length:Int)+((aY r).length:Int)):
  Calls prog 134 #[.pointer (some ⟨b,0,none⟩),rv r.kind r.seq r.it r.mks (.slice none 0 0) (.slice none 0 0)] w fun e w'=>e=.returned (.int .i64 5)/\w.grownBy w' none:=by
 have G0:=Hid.mk' (World.grownBy_alloc w (.cells #[.int .i64 r.kind,.int .i64 r.seq,.int .i64 r.it.sh,.int .i64 r.it.nu,.float .f32 r.it.pl,.float .f32 r.it.sp,.int .i64 r.mks.g,.int .i64 r.mks.m,.int .i64 r.mks.s,.int .i64 r.mks.a,.int .i64 r.mks.n,.slice none 0 0,.slice none 0 0] 139) none)
 have li:bH (w.alloc (.cells #[.int .i64 r.kind,.int .i64 r.seq,.int .i64 r.it.sh,.int .i64 r.it.nu,.float .f32 r.it.pl,.float .f32 r.it.sp,.int .i64 r.mks.g,.int .i64 r.mks.m,.int .i64 r.mks.s,.int .i64 r.mks.a,.int .i64 r.mks.n,.slice none 0 0,.slice none 0 0] 139)) (.slice none 0 0) r.items:=by rw[hr.1];exact ⟨none,0,rfl,by simp⟩
 have lo:bL (w.alloc (.cells #[.int .i64 r.kind,.int .i64 r.seq,.int .i64 r.it.sh,.int .i64 r.it.nu,.float .f32 r.it.pl,.float .f32 r.it.sp,.int .i64 r.mks.g,.int .i64 r.mks.m,.int .i64 r.mks.s,.int .i64 r.mks.a,.int .i64 r.mks.n,.slice none 0 0,.slice none 0 0] 139)) (.slice none 0 0) r.outs:=by rw[hr.2];exact ⟨none,0,rfl,by simp⟩
 have FR:=Hid.mk' (dT r _ _ _ li lo hm wf)
 have hfl:(aY r).length<=1200:=by have:=(dM r hm).2;unfold aY;rw[List.length_append];simp[n2];omega
 have H:=Hid.mk' h
 have ob:(s.dk.file s.ct).length<=10000:=by unfold Dk.file;split;exact h.ok.b0;exact h.ok.b1
 have hbl:=h.hs.at_.lt
 have hdl:=h.dk.lt
 have c3:=h.hs.at_.c 3 _ rfl
 have c4:=h.hs.at_.c 4 _ rfl
 have c6:=h.hs.at_.c 6 _ rfl
 have zl:=aQ (aY r)
 have zf:=aQ (s.dk.file s.ct)
 have hne:b≠w.heap.size:=by omega
 have hne2:bd≠w.heap.size:=by omega
 have hc':=decide_eq_true hc
 have _:=hcj
 clear h li lo hr hm wf
 generalize aY r=l at *
 unfold rv at *
 go_enter func134,ntmps134
 go_wp2_with fail
 refine Calls.mono FR.out ?_
 rintro e w1 ⟨rfl,g1⟩
 have G1:=Hid.mk' (G0.out.trans g1)
 have H1:=Hid.mk' (H.out.grown G1.out)
 have z1:=G1.out.size
 have k3:=H1.out.hs.at_.c 3 _ rfl
 have k4:=H1.out.hs.at_.c 4 _ rfl
 have k6:=H1.out.hs.at_.c 6 _ rfl
 have A1:=Hid.mk' ((At.new w [.int .i64 r.kind,.int .i64 r.seq,.int .i64 r.it.sh,.int .i64 r.it.nu,.float .f32 r.it.pl,.float .f32 r.it.sp,.int .i64 r.mks.g,.int .i64 r.mks.m,.int .i64 r.mks.s,.int .i64 r.mks.a,.int .i64 r.mks.n,.slice none 0 0,.slice none 0 0] 139).grown g1)
 clear g1
 go_wp2_with fail
 go_quiet (exact (eI bd s.dk s.ct _ (H1.out.dk.drewN _) hct).mono (fun _ _ h=>⟨h.1,_,h.2⟩))
 go_wp2
 go_ret
 exact ⟨rfl,aL G1.out nq⟩
theorem tB (B b bd bm:Nat)(ov:Value)(s:Sh)(r:Rc)(w:World)(h:SU w B b s bd bm ov)(hr:r.items=[]/\r.outs=[])(hm:aP r=true)(wf:WfR r)(hct:s.ct<2)(hcj:s.cJ<=5000)(hc:¬s.cJ<((s.dk.file s.ct).length:Int)+((aY r).length:Int))(ha:(s.dk.append s.ct (aY r)).2=false):
  Calls prog 134 #[.pointer (some ⟨b,0,none⟩),rv r.kind r.seq r.it r.mks (.slice none 0 0) (.slice none 0 0)] w fun e w'=>e=.returned (.int .i64 3)/\At w' b (s.down.cells bd (.map none) (.slice none 0 0))/\At w' bd (s.dk.append s.ct (aY r)).1.cells/\Only w w' (fun j=>j=b∨j=bd):=by
 have G0:=Hid.mk' (World.grownBy_alloc w (.cells #[.int .i64 r.kind,.int .i64 r.seq,.int .i64 r.it.sh,.int .i64 r.it.nu,.float .f32 r.it.pl,.float .f32 r.it.sp,.int .i64 r.mks.g,.int .i64 r.mks.m,.int .i64 r.mks.s,.int .i64 r.mks.a,.int .i64 r.mks.n,.slice none 0 0,.slice none 0 0] 139) none)
 have li:bH (w.alloc (.cells #[.int .i64 r.kind,.int .i64 r.seq,.int .i64 r.it.sh,.int .i64 r.it.nu,.float .f32 r.it.pl,.float .f32 r.it.sp,.int .i64 r.mks.g,.int .i64 r.mks.m,.int .i64 r.mks.s,.int .i64 r.mks.a,.int .i64 r.mks.n,.slice none 0 0,.slice none 0 0] 139)) (.slice none 0 0) r.items:=by rw[hr.1];exact ⟨none,0,rfl,by simp⟩
 have lo:bL (w.alloc (.cells #[.int .i64 r.kind,.int .i64 r.seq,.int .i64 r.it.sh,.int .i64 r.it.nu,.float .f32 r.it.pl,.float .f32 r.it.sp,.int .i64 r.mks.g,.int .i64 r.mks.m,.int .i64 r.mks.s,.int .i64 r.mks.a,.int .i64 r.mks.n,.slice none 0 0,.slice none 0 0] 139)) (.slice none 0 0) r.outs:=by rw[hr.2];exact ⟨none,0,rfl,by simp⟩
 have FR:=Hid.mk' (dT r _ _ _ li lo hm wf)
 have hfl:(aY r).length<=1200:=by have:=(dM r hm).2;unfold aY;rw[List.length_append];simp[n2];omega
 have H:=Hid.mk' h
 have ob:(s.dk.file s.ct).length<=10000:=by unfold Dk.file;split;exact h.ok.b0;exact h.ok.b1
 have hbl:=h.hs.at_.lt
 have hdl:=h.dk.lt
 have c3:=h.hs.at_.c 3 _ rfl
 have c4:=h.hs.at_.c 4 _ rfl
 have c6:=h.hs.at_.c 6 _ rfl
 have zl:=aQ (aY r)
 have zf:=aQ (s.dk.file s.ct)
 have hne:b≠w.heap.size:=by omega
 have hne2:bd≠w.heap.size:=by omega
 have hc':=decide_eq_false hc
 have APP:Hid (∀W:World,At W bd s.dk.cells->Calls prog 124 #[.pointer (some ⟨bd,0,none⟩),.int .i64 s.ct,.string (S (aY r))] W fun e w'=>e=.returned (.bool false)/\At w' bd (s.dk.append s.ct (aY r)).1.cells/\Only W w' (fun j=>j=bd)):=fun W hW=>by
  have:=eY bd s.dk s.ct (aY r) W hW h.ok hct (by omega)
  rw[ha] at this
  exact this
 clear h li lo hr hm wf
 generalize aY r=l at *
 unfold rv at *
 go_enter func134,ntmps134
 go_wp2_with fail
 refine Calls.mono FR.out ?_
 rintro e w1 ⟨rfl,g1⟩
 have G1:=Hid.mk' (G0.out.trans g1)
 have H1:=Hid.mk' (H.out.grown G1.out)
 have z1:=G1.out.size
 have k3:=H1.out.hs.at_.c 3 _ rfl
 have k4:=H1.out.hs.at_.c 4 _ rfl
 have k6:=H1.out.hs.at_.c 6 _ rfl
 have A1:=Hid.mk' ((At.new w [.int .i64 r.kind,.int .i64 r.seq,.int .i64 r.it.sh,.int .i64 r.it.nu,.float .f32 r.it.pl,.float .f32 r.it.sp,.int .i64 r.mks.g,.int .i64 r.mks.m,.int .i64 r.mks.s,.int .i64 r.mks.a,.int .i64 r.mks.n,.slice none 0 0,.slice none 0 0] 139).grown g1)
 clear g1
 go_wp2_with fail
 go_quiet (exact (eI bd s.dk s.ct _ (H1.out.dk.drewN _) hct).mono (fun _ _ h=>⟨h.1,_,h.2⟩))
 go_wp2_with fail
 refine wp_region_held_drew (S:=fun w'=>w'.cell? ⟨b,4,none⟩=some (.pointer (some ⟨bd,0,none⟩))/\w'.cell? ⟨b,6,none⟩=some (.int .i64 s.ct)) (by kernel_rfl) ?_ (fun hHeld=>?_)
 ·exact ⟨by simp[*],by simp[*]⟩
 refine dG 0 rfl (by intro w hSw;obtain ⟨S0,S1⟩:=hSw;go_simp;try with_reducible rfl) ?_
 simp only[aF]
 refine dG 1 rfl (by intro w hSw;obtain ⟨S0,S1⟩:=hSw;go_simp;try with_reducible rfl) ?_
 simp only[aF]
 refine dG 2 rfl (by intro w hSw;obtain ⟨S0,S1⟩:=hSw;go_simp;try with_reducible rfl) ?_
 simp only[aF]
 refine dG 3 rfl (by intro w hSw;obtain ⟨S0,S1⟩:=hSw;go_simp;try with_reducible rfl) ?_
 simp only[aF]
 refine dG 4 rfl (by intro w hSw;obtain ⟨S0,S1⟩:=hSw;go_simp;try with_reducible rfl) ?_
 simp only[aF]
 refine dG 5 rfl (by intro w hSw;obtain ⟨S0,S1⟩:=hSw;go_simp;try with_reducible rfl) ?_
 simp only[aF]
 refine dG 6 rfl (by intro w hSw;obtain ⟨S0,S1⟩:=hSw;go_simp;try with_reducible rfl) ?_
 simp only[aF]
 refine dG 7 rfl (by intro w hSw;obtain ⟨S0,S1⟩:=hSw;go_simp;try with_reducible rfl) ?_
 simp only[aF]
 refine dG 8 rfl (by intro w hSw;obtain ⟨S0,S1⟩:=hSw;go_simp;try with_reducible rfl) ?_
 simp only[aF]
 have q9:At (w1.drewN nq).drew bd s.dk.cells:=(H1.out.dk.drewN nq).drew
 refine aX 9 (f:=124) (args:=#[.pointer (some ⟨bd,0,none⟩),.int .i64 s.ct,.string (S l)]) (by kernel_rfl) (by rfl) (by rfl) (by go_simp) ?_
 refine Calls.mono (APP.out _ q9) ?_
 rintro e w8 ⟨rfl,h8,o8⟩
 have O8:=Hid.mk' (((Only.refl w1 (fun j=>j=bd)).drewN nq).drew.trans (o8.mono (fun _ _ e=>.inl e)))
 have Q8:=Hid.mk' (H1.out.hs.disk O8.out H.out.d1 H.out.d2 H.out.d3)
 have c84:=Q8.out.at_.c 4 _ rfl
 have c86:=Q8.out.at_.c 6 _ rfl
 clear hHeld q9
 have hHeld:=And.intro c84 c86
 refine ⟨_,rfl,hHeld,?_⟩
 simp only[aF]
 refine dG 10 rfl (by intro w hSw;obtain ⟨S0,S1⟩:=hSw;go_simp;try with_reducible rfl) ?_
 simp only[aF]
 refine dG 11 rfl (by intro w hSw;obtain ⟨S0,S1⟩:=hSw;go_simp;try with_reducible rfl) ?_
 simp only[aF]
 refine cP 12 ?_
 simp only[aF]
 refine cP 13 ?_
 simp only[aF]
 refine cP 14 ?_
 simp only[aF]
 refine cP 15 ?_
 simp only[aF]
 refine cP 16 ?_
 simp only[aF]
 refine cP 17 ?_
 simp only[aF]
 refine cP 18 ?_
 simp only[aF]
 refine cP 19 ?_
 simp only[aF]
 refine cP 20 ?_
 simp only[aF]
 refine cP 21 ?_
 simp only[aF]
 refine dG 22 rfl (by intro w hSw;obtain ⟨S0,S1⟩:=hSw;go_simp;try with_reducible rfl) ?_
 simp only[aF]
 refine wpAnyH_done (by kernel_rfl) ?_ _
 go_wp2_with fail
 refine Calls.mono (gP b s bd _ _ w8 Q8.out.at_) ?_
 rintro e w6 ⟨rfl,h6,o6⟩
 go_wp2
 go_ret
 refine ⟨rfl,h6,h8.only o6 H.out.d1,?_⟩
 exact ((((Only.grown G1.out).mono (by simp)).trans (O8.out.mono (fun _ _ e=>.inl (.inr e))))).trans (o6.mono (fun _ _ e=>.inl (.inl e)))
theorem tC (B b bd bm:Nat)(ov:Value)(s:Sh)(r:Rc)(w:World)(h:SU w B b s bd bm ov)(hr:r.items=[]/\r.outs=[])(hm:aP r=true)(wf:WfR r)(hct:s.ct<2)(hcj:s.cJ<=5000)(hc:¬s.cJ<((s.dk.file s.ct).length:Int)+((aY r).length:Int))(ha:(s.dk.append s.ct (aY r)).2=true)(hb:((s.dk.append s.ct (aY r)).1.sync s.ct).2=false):
  Calls prog 134 #[.pointer (some ⟨b,0,none⟩),rv r.kind r.seq r.it r.mks (.slice none 0 0) (.slice none 0 0)] w fun e w'=>e=.returned (.int .i64 3)/\At w' b (s.down.cells bd (.map none) (.slice none 0 0))/\At w' bd ((s.dk.append s.ct (aY r)).1.sync s.ct).1.cells/\Only w w' (fun j=>j=b∨j=bd):=by
 have G0:=Hid.mk' (World.grownBy_alloc w (.cells #[.int .i64 r.kind,.int .i64 r.seq,.int .i64 r.it.sh,.int .i64 r.it.nu,.float .f32 r.it.pl,.float .f32 r.it.sp,.int .i64 r.mks.g,.int .i64 r.mks.m,.int .i64 r.mks.s,.int .i64 r.mks.a,.int .i64 r.mks.n,.slice none 0 0,.slice none 0 0] 139) none)
 have li:bH (w.alloc (.cells #[.int .i64 r.kind,.int .i64 r.seq,.int .i64 r.it.sh,.int .i64 r.it.nu,.float .f32 r.it.pl,.float .f32 r.it.sp,.int .i64 r.mks.g,.int .i64 r.mks.m,.int .i64 r.mks.s,.int .i64 r.mks.a,.int .i64 r.mks.n,.slice none 0 0,.slice none 0 0] 139)) (.slice none 0 0) r.items:=by rw[hr.1];exact ⟨none,0,rfl,by simp⟩
 have lo:bL (w.alloc (.cells #[.int .i64 r.kind,.int .i64 r.seq,.int .i64 r.it.sh,.int .i64 r.it.nu,.float .f32 r.it.pl,.float .f32 r.it.sp,.int .i64 r.mks.g,.int .i64 r.mks.m,.int .i64 r.mks.s,.int .i64 r.mks.a,.int .i64 r.mks.n,.slice none 0 0,.slice none 0 0] 139)) (.slice none 0 0) r.outs:=by rw[hr.2];exact ⟨none,0,rfl,by simp⟩
 have FR:=Hid.mk' (dT r _ _ _ li lo hm wf)
 have hfl:(aY r).length<=1200:=by have:=(dM r hm).2;unfold aY;rw[List.length_append];simp[n2];omega
 have H:=Hid.mk' h
 have ob:(s.dk.file s.ct).length<=10000:=by unfold Dk.file;split;exact h.ok.b0;exact h.ok.b1
 have hbl:=h.hs.at_.lt
 have hdl:=h.dk.lt
 have c3:=h.hs.at_.c 3 _ rfl
 have c4:=h.hs.at_.c 4 _ rfl
 have c6:=h.hs.at_.c 6 _ rfl
 have zl:=aQ (aY r)
 have zf:=aQ (s.dk.file s.ct)
 have hne:b≠w.heap.size:=by omega
 have hne2:bd≠w.heap.size:=by omega
 have hc':=decide_eq_false hc
 have APP:Hid (∀W:World,At W bd s.dk.cells->Calls prog 124 #[.pointer (some ⟨bd,0,none⟩),.int .i64 s.ct,.string (S (aY r))] W fun e w'=>e=.returned (.bool true)/\At w' bd (s.dk.append s.ct (aY r)).1.cells/\Only W w' (fun j=>j=bd)):=fun W hW=>by
  have:=eY bd s.dk s.ct (aY r) W hW h.ok hct (by omega)
  rw[ha] at this
  exact this
 have okA:((if s.ct=0 then {s.dk with f0:=s.dk.f0++aY r} else {s.dk with f1:=s.dk.f1++aY r}:Dk).act.1).Ok:=(h.ok.append s.ct (aY r) (by omega)).act
 have SYN:Hid (∀W:World,At W bd (s.dk.append s.ct (aY r)).1.cells->Calls prog 125 #[.pointer (some ⟨bd,0,none⟩),.int .i64 s.ct] W fun e w'=>e=.returned (.bool false)/\At w' bd ((s.dk.append s.ct (aY r)).1.sync s.ct).1.cells/\Only W w' (fun j=>j=bd)):=fun W hW=>by
  have:=kS bd (s.dk.append s.ct (aY r)).1 s.ct W hW okA hct
  rw[hb] at this
  exact this
 clear okA
 clear h li lo hr hm wf
 generalize aY r=l at *
 unfold rv at *
 go_enter func134,ntmps134
 go_wp2_with fail
 refine Calls.mono FR.out ?_
 rintro e w1 ⟨rfl,g1⟩
 have G1:=Hid.mk' (G0.out.trans g1)
 have H1:=Hid.mk' (H.out.grown G1.out)
 have z1:=G1.out.size
 have k3:=H1.out.hs.at_.c 3 _ rfl
 have k4:=H1.out.hs.at_.c 4 _ rfl
 have k6:=H1.out.hs.at_.c 6 _ rfl
 have A1:=Hid.mk' ((At.new w [.int .i64 r.kind,.int .i64 r.seq,.int .i64 r.it.sh,.int .i64 r.it.nu,.float .f32 r.it.pl,.float .f32 r.it.sp,.int .i64 r.mks.g,.int .i64 r.mks.m,.int .i64 r.mks.s,.int .i64 r.mks.a,.int .i64 r.mks.n,.slice none 0 0,.slice none 0 0] 139).grown g1)
 clear g1
 go_wp2_with fail
 go_quiet (exact (eI bd s.dk s.ct _ (H1.out.dk.drewN _) hct).mono (fun _ _ h=>⟨h.1,_,h.2⟩))
 go_wp2_with fail
 refine wp_region_held_drew (S:=fun w'=>w'.cell? ⟨b,4,none⟩=some (.pointer (some ⟨bd,0,none⟩))/\w'.cell? ⟨b,6,none⟩=some (.int .i64 s.ct)) (by kernel_rfl) ?_ (fun hHeld=>?_)
 ·exact ⟨by simp[*],by simp[*]⟩
 refine dG 0 rfl (by intro w hSw;obtain ⟨S0,S1⟩:=hSw;go_simp;try with_reducible rfl) ?_
 simp only[aF]
 refine dG 1 rfl (by intro w hSw;obtain ⟨S0,S1⟩:=hSw;go_simp;try with_reducible rfl) ?_
 simp only[aF]
 refine dG 2 rfl (by intro w hSw;obtain ⟨S0,S1⟩:=hSw;go_simp;try with_reducible rfl) ?_
 simp only[aF]
 refine dG 3 rfl (by intro w hSw;obtain ⟨S0,S1⟩:=hSw;go_simp;try with_reducible rfl) ?_
 simp only[aF]
 refine dG 4 rfl (by intro w hSw;obtain ⟨S0,S1⟩:=hSw;go_simp;try with_reducible rfl) ?_
 simp only[aF]
 refine dG 5 rfl (by intro w hSw;obtain ⟨S0,S1⟩:=hSw;go_simp;try with_reducible rfl) ?_
 simp only[aF]
 refine dG 6 rfl (by intro w hSw;obtain ⟨S0,S1⟩:=hSw;go_simp;try with_reducible rfl) ?_
 simp only[aF]
 refine dG 7 rfl (by intro w hSw;obtain ⟨S0,S1⟩:=hSw;go_simp;try with_reducible rfl) ?_
 simp only[aF]
 refine dG 8 rfl (by intro w hSw;obtain ⟨S0,S1⟩:=hSw;go_simp;try with_reducible rfl) ?_
 simp only[aF]
 have q9:At (w1.drewN nq).drew bd s.dk.cells:=(H1.out.dk.drewN nq).drew
 refine aX 9 (f:=124) (args:=#[.pointer (some ⟨bd,0,none⟩),.int .i64 s.ct,.string (S l)]) (by kernel_rfl) (by rfl) (by rfl) (by go_simp) ?_
 refine Calls.mono (APP.out _ q9) ?_
 rintro e w8 ⟨rfl,h8,o8⟩
 have O8:=Hid.mk' (((Only.refl w1 (fun j=>j=bd)).drewN nq).drew.trans (o8.mono (fun _ _ e=>.inl e)))
 have Q8:=Hid.mk' (H1.out.hs.disk O8.out H.out.d1 H.out.d2 H.out.d3)
 have c84:=Q8.out.at_.c 4 _ rfl
 have c86:=Q8.out.at_.c 6 _ rfl
 clear hHeld q9
 have hHeld:=And.intro c84 c86
 refine ⟨_,rfl,hHeld,?_⟩
 simp only[aF]
 refine dG 10 rfl (by intro w hSw;obtain ⟨S0,S1⟩:=hSw;go_simp;try with_reducible rfl) ?_
 simp only[aF]
 refine dG 11 rfl (by intro w hSw;obtain ⟨S0,S1⟩:=hSw;go_simp;try with_reducible rfl) ?_
 simp only[aF]
 refine dG 12 rfl (by intro w hSw;obtain ⟨S0,S1⟩:=hSw;go_simp;try with_reducible rfl) ?_
 simp only[aF]
 refine dG 13 rfl (by intro w hSw;obtain ⟨S0,S1⟩:=hSw;go_simp;try with_reducible rfl) ?_
 simp only[aF]
 refine dG 14 rfl (by intro w hSw;obtain ⟨S0,S1⟩:=hSw;go_simp;try with_reducible rfl) ?_
 simp only[aF]
 refine dG 15 rfl (by intro w hSw;obtain ⟨S0,S1⟩:=hSw;go_simp;try with_reducible rfl) ?_
 simp only[aF]
 refine dG 16 rfl (by intro w hSw;obtain ⟨S0,S1⟩:=hSw;go_simp;try with_reducible rfl) ?_
 simp only[aF]
 refine dG 17 rfl (by intro w hSw;obtain ⟨S0,S1⟩:=hSw;go_simp;try with_reducible rfl) ?_
 simp only[aF]
 refine dG 18 rfl (by intro w hSw;obtain ⟨S0,S1⟩:=hSw;go_simp;try with_reducible rfl) ?_
 simp only[aF]
 refine dG 19 rfl (by intro w hSw;obtain ⟨S0,S1⟩:=hSw;go_simp;try with_reducible rfl) ?_
 simp only[aF]
 refine aX 20 (f:=125) (args:=#[.pointer (some ⟨bd,0,none⟩),.int .i64 s.ct]) (by kernel_rfl) (by rfl) (by rfl) (by go_simp) ?_
 refine Calls.mono (SYN.out _ h8) ?_
 rintro e w7 ⟨rfl,h7,o7⟩
 have Q7:=Hid.mk' (Q8.out.disk o7 H.out.d1 H.out.d2 H.out.d3)
 have c74:=Q7.out.at_.c 4 _ rfl
 have c76:=Q7.out.at_.c 6 _ rfl
 clear hHeld
 have hHeld:=And.intro c74 c76
 refine ⟨_,rfl,hHeld,?_⟩
 simp only[aF]
 refine dG 21 rfl (by intro w hSw;obtain ⟨S0,S1⟩:=hSw;go_simp;try with_reducible rfl) ?_
 simp only[aF]
 refine dG 22 rfl (by intro w hSw;obtain ⟨S0,S1⟩:=hSw;go_simp;try with_reducible rfl) ?_
 simp only[aF]
 refine wpAnyH_done (by kernel_rfl) ?_ _
 go_wp2_with fail
 refine Calls.mono (gP b s bd _ _ w7 Q7.out.at_) ?_
 rintro e w6 ⟨rfl,h6,o6⟩
 go_wp2
 go_ret
 refine ⟨rfl,h6,h7.only o6 H.out.d1,?_⟩
 exact (((((Only.grown G1.out).mono (by simp)).trans (O8.out.mono (fun _ _ e=>.inl (.inr e)))).trans (o7.mono (fun _ _ e=>.inl (.inr e))))).trans (o6.mono (fun _ _ e=>.inl (.inl e)))
theorem aAG (B b bd bm:Nat)(ov:Value)(s:Sh)(r:Rc)(w:World)(h:SU w B b s bd bm ov)(hr:r.items=[]/\r.outs=[])(hm:aP r=true)(wf:WfR r)(hct:s.ct<2)(hcj:s.cJ<=5000)(hc:¬s.cJ<((s.dk.file s.ct).length:Int)+((aY r).length:Int))(R:World->World->Prop)(hdo:∀W,HS W B b s bd bm ov->Calls prog 89 #[.pointer (some ⟨b,0,none⟩),rv r.kind r.seq r.it r.mks (.slice none 0 0) (.slice none 0 0)] W fun e w'=>e=.returned (.tuple #[])/\R W w')(ha:(s.dk.append s.ct (aY r)).2=true)(hb:((s.dk.append s.ct (aY r)).1.sync s.ct).2=true):
  Calls prog 134 #[.pointer (some ⟨b,0,none⟩),rv r.kind r.seq r.it r.mks (.slice none 0 0) (.slice none 0 0)] w fun e w'=>e=.returned (.int .i64 0)/\∃W,HS W B b s bd bm ov/\At W bd ((s.dk.append s.ct (aY r)).1.sync s.ct).1.cells/\Only w W (fun j=>j=bd)/\R W w':=by
 have G0:=Hid.mk' (World.grownBy_alloc w (.cells #[.int .i64 r.kind,.int .i64 r.seq,.int .i64 r.it.sh,.int .i64 r.it.nu,.float .f32 r.it.pl,.float .f32 r.it.sp,.int .i64 r.mks.g,.int .i64 r.mks.m,.int .i64 r.mks.s,.int .i64 r.mks.a,.int .i64 r.mks.n,.slice none 0 0,.slice none 0 0] 139) none)
 have li:bH (w.alloc (.cells #[.int .i64 r.kind,.int .i64 r.seq,.int .i64 r.it.sh,.int .i64 r.it.nu,.float .f32 r.it.pl,.float .f32 r.it.sp,.int .i64 r.mks.g,.int .i64 r.mks.m,.int .i64 r.mks.s,.int .i64 r.mks.a,.int .i64 r.mks.n,.slice none 0 0,.slice none 0 0] 139)) (.slice none 0 0) r.items:=by rw[hr.1];exact ⟨none,0,rfl,by simp⟩
 have lo:bL (w.alloc (.cells #[.int .i64 r.kind,.int .i64 r.seq,.int .i64 r.it.sh,.int .i64 r.it.nu,.float .f32 r.it.pl,.float .f32 r.it.sp,.int .i64 r.mks.g,.int .i64 r.mks.m,.int .i64 r.mks.s,.int .i64 r.mks.a,.int .i64 r.mks.n,.slice none 0 0,.slice none 0 0] 139)) (.slice none 0 0) r.outs:=by rw[hr.2];exact ⟨none,0,rfl,by simp⟩
 have FR:=Hid.mk' (dT r _ _ _ li lo hm wf)
 have hfl:(aY r).length<=1200:=by have:=(dM r hm).2;unfold aY;rw[List.length_append];simp[n2];omega
 have H:=Hid.mk' h
 have ob:(s.dk.file s.ct).length<=10000:=by unfold Dk.file;split;exact h.ok.b0;exact h.ok.b1
 have hbl:=h.hs.at_.lt
 have hdl:=h.dk.lt
 have c3:=h.hs.at_.c 3 _ rfl
 have c4:=h.hs.at_.c 4 _ rfl
 have c6:=h.hs.at_.c 6 _ rfl
 have zl:=aQ (aY r)
 have zf:=aQ (s.dk.file s.ct)
 have hne:b≠w.heap.size:=by omega
 have hne2:bd≠w.heap.size:=by omega
 have hc':=decide_eq_false hc
 have APP:Hid (∀W:World,At W bd s.dk.cells->Calls prog 124 #[.pointer (some ⟨bd,0,none⟩),.int .i64 s.ct,.string (S (aY r))] W fun e w'=>e=.returned (.bool true)/\At w' bd (s.dk.append s.ct (aY r)).1.cells/\Only W w' (fun j=>j=bd)):=fun W hW=>by
  have:=eY bd s.dk s.ct (aY r) W hW h.ok hct (by omega)
  rw[ha] at this
  exact this
 have okA:((if s.ct=0 then {s.dk with f0:=s.dk.f0++aY r} else {s.dk with f1:=s.dk.f1++aY r}:Dk).act.1).Ok:=(h.ok.append s.ct (aY r) (by omega)).act
 have SYN:Hid (∀W:World,At W bd (s.dk.append s.ct (aY r)).1.cells->Calls prog 125 #[.pointer (some ⟨bd,0,none⟩),.int .i64 s.ct] W fun e w'=>e=.returned (.bool true)/\At w' bd ((s.dk.append s.ct (aY r)).1.sync s.ct).1.cells/\Only W w' (fun j=>j=bd)):=fun W hW=>by
  have:=kS bd (s.dk.append s.ct (aY r)).1 s.ct W hW okA hct
  rw[hb] at this
  exact this
 clear okA
 have DO:=Hid.mk' hdo
 clear h li lo hr hm wf hdo
 generalize aY r=l at *
 unfold rv at *
 go_enter func134,ntmps134
 go_wp2_with fail
 refine Calls.mono FR.out ?_
 rintro e w1 ⟨rfl,g1⟩
 have G1:=Hid.mk' (G0.out.trans g1)
 have H1:=Hid.mk' (H.out.grown G1.out)
 have z1:=G1.out.size
 have k3:=H1.out.hs.at_.c 3 _ rfl
 have k4:=H1.out.hs.at_.c 4 _ rfl
 have k6:=H1.out.hs.at_.c 6 _ rfl
 have A1:=Hid.mk' ((At.new w [.int .i64 r.kind,.int .i64 r.seq,.int .i64 r.it.sh,.int .i64 r.it.nu,.float .f32 r.it.pl,.float .f32 r.it.sp,.int .i64 r.mks.g,.int .i64 r.mks.m,.int .i64 r.mks.s,.int .i64 r.mks.a,.int .i64 r.mks.n,.slice none 0 0,.slice none 0 0] 139).grown g1)
 clear g1
 go_wp2_with fail
 go_quiet (exact (eI bd s.dk s.ct _ (H1.out.dk.drewN _) hct).mono (fun _ _ h=>⟨h.1,_,h.2⟩))
 go_wp2_with fail
 refine wp_region_held_drew (S:=fun w'=>w'.cell? ⟨b,4,none⟩=some (.pointer (some ⟨bd,0,none⟩))/\w'.cell? ⟨b,6,none⟩=some (.int .i64 s.ct)) (by kernel_rfl) ?_ (fun hHeld=>?_)
 ·exact ⟨by simp[*],by simp[*]⟩
 refine dG 0 rfl (by intro w hSw;obtain ⟨S0,S1⟩:=hSw;go_simp;try with_reducible rfl) ?_
 simp only[aF]
 refine dG 1 rfl (by intro w hSw;obtain ⟨S0,S1⟩:=hSw;go_simp;try with_reducible rfl) ?_
 simp only[aF]
 refine dG 2 rfl (by intro w hSw;obtain ⟨S0,S1⟩:=hSw;go_simp;try with_reducible rfl) ?_
 simp only[aF]
 refine dG 3 rfl (by intro w hSw;obtain ⟨S0,S1⟩:=hSw;go_simp;try with_reducible rfl) ?_
 simp only[aF]
 refine dG 4 rfl (by intro w hSw;obtain ⟨S0,S1⟩:=hSw;go_simp;try with_reducible rfl) ?_
 simp only[aF]
 refine dG 5 rfl (by intro w hSw;obtain ⟨S0,S1⟩:=hSw;go_simp;try with_reducible rfl) ?_
 simp only[aF]
 refine dG 6 rfl (by intro w hSw;obtain ⟨S0,S1⟩:=hSw;go_simp;try with_reducible rfl) ?_
 simp only[aF]
 refine dG 7 rfl (by intro w hSw;obtain ⟨S0,S1⟩:=hSw;go_simp;try with_reducible rfl) ?_
 simp only[aF]
 refine dG 8 rfl (by intro w hSw;obtain ⟨S0,S1⟩:=hSw;go_simp;try with_reducible rfl) ?_
 simp only[aF]
 have q9:At (w1.drewN nq).drew bd s.dk.cells:=(H1.out.dk.drewN nq).drew
 refine aX 9 (f:=124) (args:=#[.pointer (some ⟨bd,0,none⟩),.int .i64 s.ct,.string (S l)]) (by kernel_rfl) (by rfl) (by rfl) (by go_simp) ?_
 refine Calls.mono (APP.out _ q9) ?_
 rintro e w8 ⟨rfl,h8,o8⟩
 have O8:=Hid.mk' (((Only.refl w1 (fun j=>j=bd)).drewN nq).drew.trans (o8.mono (fun _ _ e=>.inl e)))
 have Q8:=Hid.mk' (H1.out.hs.disk O8.out H.out.d1 H.out.d2 H.out.d3)
 have c84:=Q8.out.at_.c 4 _ rfl
 have c86:=Q8.out.at_.c 6 _ rfl
 clear hHeld q9
 have hHeld:=And.intro c84 c86
 refine ⟨_,rfl,hHeld,?_⟩
 simp only[aF]
 refine dG 10 rfl (by intro w hSw;obtain ⟨S0,S1⟩:=hSw;go_simp;try with_reducible rfl) ?_
 simp only[aF]
 refine dG 11 rfl (by intro w hSw;obtain ⟨S0,S1⟩:=hSw;go_simp;try with_reducible rfl) ?_
 simp only[aF]
 refine dG 12 rfl (by intro w hSw;obtain ⟨S0,S1⟩:=hSw;go_simp;try with_reducible rfl) ?_
 simp only[aF]
 refine dG 13 rfl (by intro w hSw;obtain ⟨S0,S1⟩:=hSw;go_simp;try with_reducible rfl) ?_
 simp only[aF]
 refine dG 14 rfl (by intro w hSw;obtain ⟨S0,S1⟩:=hSw;go_simp;try with_reducible rfl) ?_
 simp only[aF]
 refine dG 15 rfl (by intro w hSw;obtain ⟨S0,S1⟩:=hSw;go_simp;try with_reducible rfl) ?_
 simp only[aF]
 refine dG 16 rfl (by intro w hSw;obtain ⟨S0,S1⟩:=hSw;go_simp;try with_reducible rfl) ?_
 simp only[aF]
 refine dG 17 rfl (by intro w hSw;obtain ⟨S0,S1⟩:=hSw;go_simp;try with_reducible rfl) ?_
 simp only[aF]
 refine dG 18 rfl (by intro w hSw;obtain ⟨S0,S1⟩:=hSw;go_simp;try with_reducible rfl) ?_
 simp only[aF]
 refine dG 19 rfl (by intro w hSw;obtain ⟨S0,S1⟩:=hSw;go_simp;try with_reducible rfl) ?_
 simp only[aF]
 refine aX 20 (f:=125) (args:=#[.pointer (some ⟨bd,0,none⟩),.int .i64 s.ct]) (by kernel_rfl) (by rfl) (by rfl) (by go_simp) ?_
 refine Calls.mono (SYN.out _ h8) ?_
 rintro e w7 ⟨rfl,h7,o7⟩
 have Q7:=Hid.mk' (Q8.out.disk o7 H.out.d1 H.out.d2 H.out.d3)
 have c74:=Q7.out.at_.c 4 _ rfl
 have c76:=Q7.out.at_.c 6 _ rfl
 clear hHeld
 have hHeld:=And.intro c74 c76
 refine ⟨_,rfl,hHeld,?_⟩
 simp only[aF]
 refine dG 21 rfl (by intro w hSw;obtain ⟨S0,S1⟩:=hSw;go_simp;try with_reducible rfl) ?_
 simp only[aF]
 refine dG 22 rfl (by intro w hSw;obtain ⟨S0,S1⟩:=hSw;go_simp;try with_reducible rfl) ?_
 simp only[aF]
 refine wpAnyH_done (by kernel_rfl) ?_ _
 have A7:=(A1.out.only O8.out (fun e=>hne2 e.symm)).only o7 (fun e=>hne2 e.symm)
 have a0:=A7.c 0 _ rfl
 have a1:=A7.c 1 _ rfl
 have a2:=A7.c 2 _ rfl
 have a3:=A7.c 3 _ rfl
 have a4:=A7.c 4 _ rfl
 have a5:=A7.c 5 _ rfl
 have a6:=A7.c 6 _ rfl
 have a7:=A7.c 7 _ rfl
 have a8:=A7.c 8 _ rfl
 have a9:=A7.c 9 _ rfl
 have a10:=A7.c 10 _ rfl
 have a11:=A7.c 11 _ rfl
 have a12:=A7.c 12 _ rfl
 clear A7
 go_wp2_with fail
 refine Calls.mono (DO.out w7 Q7.out) ?_
 rintro e w6 ⟨rfl,h6⟩
 go_wp2
 go_ret
 refine ⟨rfl,w7,Q7.out,h7,?_,h6⟩
 exact (((Only.grown G1.out).mono (by simp)).trans (O8.out.mono (fun _ _ e=>.inl e))).trans (o7.mono (fun _ _ e=>.inl e))
theorem At.putL_from {b:Nat}:∀(vs ys A:List Value) (w:World) (p:Nat),vs.length=ys.length->A.length=p->At w b (A++ys)->At (mR w b p vs) b (A++vs)
 | [],[],A,w,p,_,_,h=>by simpa [mR] using h
 | v::r,y::ys,A,w,p,hl,hp,h=>by
  have h1:=h.put p v (by simp;omega)
  have e:(A++y::ys).set p v=(A++[v])++ys:=by
   rw[List.set_append_right _ _ (by omega),hp,Nat.sub_self]
   simp
  rw[e] at h1
  have h2:=At.putL_from r ys (A++[v]) _ (p+1) (by simpa using hl) (by simp[hp]) h1
  simpa [mR] using h2
 | [],y::ys,A,w,p,hl,_,_=>by simp at hl
 | v::r,[],A,w,p,hl,_,_=>by simp at hl
theorem At.all {w:World}{b:Nat}{ys:List Value}(h:At w b ys)(vs:List Value)(hl:vs.length=ys.length):At (mR w b 0 vs) b vs:=by
 simpa using At.putL_from vs ys [] w 0 hl rfl (by simpa using h)
theorem OwnI.base {B B':Nat}{w:World}{v:Value}{is:List It}(h:OwnI B w v is)(hB:B'<=B):OwnI B' w v is:=by
 refine ⟨h.1,h.2.imp id ?_⟩
 rintro ⟨g,cap,cur,e,h1,h2⟩
 exact ⟨g,cap,cur,e,Nat.le_trans hB h1,h2⟩
theorem OwnE.base {B B':Nat}{w:World}{v:Value}{is:List En}(h:OwnE B w v is)(hB:B'<=B):OwnE B' w v is:=by
 refine ⟨h.1,h.2.imp id ?_⟩
 rintro ⟨g,cap,cur,e,h1,h2⟩
 exact ⟨g,cap,cur,e,Nat.le_trans hB h1,h2⟩
theorem OwnI.lt {B:Nat}{w:World}{v:Value}{es:List It}(h:OwnI B w v es):∀j,v.ownBlock=some j->B<=j/\j<w.heap.size:=fun j hj=>by
 rcases h.2 with ⟨h',_⟩ | ⟨g,cap,cur,h',h1,h2,_⟩
 ·rw[h'] at hj;cases hj
 ·rw[h'] at hj
  injection hj with hj
  subst hj
  exact ⟨h1,(Array.getElem?_eq_some_iff.1 h2).1⟩
theorem Only.fresh {w w':World}{A:Nat->Prop}(h:Only w w' A)(hA:∀k,k<w.heap.size->¬A k):w.grownBy w' none:=
 ⟨h.os,h.tape,h.output,h.size,fun k hk _=>h.block k hk (hA k hk)⟩
theorem pY (B b o:Nat)(ov:Value)(es:List En)(w:World)(hc:w.cell? ⟨b,o+1,none⟩=some ov)(h:OwnE B w ov es)(hl:es.length<=1000):
  Calls prog 84 #[.pointer (some ⟨b,o,none⟩)] w fun e w'=>∃v,e=.returned v/\OwnE w.heap.size w' v es/\w.grownBy w' none:=by
 have A:=Hid.mk' (aAF B ov es w h hl)
 clear h hl
 go_enter func84,ntmps84
 go_wp2_with fail
 refine Calls.mono A.out ?_
 rintro e w1 ⟨v,rfl,h1,g1⟩
 go_wp2
 go_ret
 exact ⟨v,rfl,h1,g1⟩
theorem lX (B b bd bm:Nat)(ov:Value)(s:Sh)(w:World)(h:HS w B b s bd bm ov)(hl:s.th.length<=1000)(hlo:s.ob.length<=1000):
  Calls prog 121 #[.pointer (some ⟨b,7,none⟩)] w fun e w'=>∃vi vo,∃ss:List It,e=.returned (rv 6 0 bT s.ms vi vo)/\ss.Perm s.th/\Srt ss/\OwnI w.heap.size w' vi ss/\OwnE w.heap.size w' vo s.ob/\w.grownBy w' none:=by
 have H:=Hid.mk' h
 have hbl:=h.at_.lt
 have hsf:=aK
 have hne:b≠w.heap.size:=by omega
 have G0:=Hid.mk' (aA (World.grownBy_alloc w (.cells #[.int .i64 0,.int .i64 0,.int .i64 0,.int .i64 0,.float .f32 0,.float .f32 0,.int .i64 0,.int .i64 0,.int .i64 0,.int .i64 0,.int .i64 0,.slice none 0 0,.slice none 0 0] 139) none))
 have H0:=Hid.mk' (h.grown G0.out)
 have A0:=Hid.mk' (At.new w [.int .i64 0,.int .i64 0,.int .i64 0,.int .i64 0,.float .f32 0,.float .f32 0,.int .i64 0,.int .i64 0,.int .i64 0,.int .i64 0,.int .i64 0,.slice none 0 0,.slice none 0 0] 139).drew
 clear h
 go_enter func121,ntmps121
 go_wp2_with fail
 refine wp_region_held_drew (S:=fun w'=>At w' b (s.cells bd (.map (some bm)) ov)) (by kernel_rfl) (H0.out.at_) (fun hHeld=>?_)
 refine aN 0 ?_
 simp only[aF]
 refine aN 1 ?_
 simp only[aF]
 refine aN 2 ?_
 simp only[aF]
 refine dG 3 rfl (by intro w hSw;have S9:=hSw.c 9 _ rfl;have S10:=hSw.c 10 _ rfl;have S11:=hSw.c 11 _ rfl;have S12:=hSw.c 12 _ rfl;have S13:=hSw.c 13 _ rfl;go_simp;try with_reducible rfl) ?_
 simp only[aF]
 refine aN 4 ?_
 simp only[aF]
 refine aN 6 ?_
 simp only[aF]
 refine aX 5 (f:=83) (args:=#[.pointer (some ⟨b,7,none⟩)]) (by kernel_rfl) (by rfl) (by rfl) (by go_simp) ?_
 refine Calls.mono (lU b 7 bm s.th _ (H0.out.at_.c 7 _ rfl) H0.out.mp hl) ?_
 rintro e w1 ⟨vi,ss,rfl,hp,hs,h1,g1⟩
 clear hHeld
 have hHeld:=(H0.out.grown g1).at_
 refine ⟨_,rfl,hHeld,?_⟩
 simp only[aF]
 have H1:=Hid.mk' (H0.out.grown g1)
 refine aX 7 (f:=84) (args:=#[.pointer (some ⟨b,7,none⟩)]) (by kernel_rfl) (by rfl) (by rfl) (by go_simp) ?_
 refine Calls.mono (pY B b 7 ov s.ob _ (H1.out.at_.c 8 _ rfl) H1.out.ob hlo) ?_
 rintro e w2 ⟨vo,rfl,h2,g2⟩
 clear hHeld
 have hHeld:=(H1.out.grown g2).at_
 refine ⟨_,rfl,hHeld,?_⟩
 simp only[aF]
 obtain ⟨ai,ci,rfl⟩:=aJ h1
 obtain ⟨ao,co,rfl⟩:=aJ h2
 refine aN 8 ?_
 simp only[aF]
 have A2:=(A0.out.grown g1).grown g2
 have z1:=g1.size
 have z2:=g2.size
 have s1:w.heap.size<(w.alloc (.cells #[.int .i64 0,.int .i64 0,.int .i64 0,.int .i64 0,.float .f32 0,.float .f32 0,.int .i64 0,.int .i64 0,.int .i64 0,.int .i64 0,.int .i64 0,.slice none 0 0,.slice none 0 0] 139)).drew.heap.size:=by simp
 have a0:=A2.c 0 _ rfl
 have f0:=A2.f 0
 have a1:=A2.c 1 _ rfl
 have f1:=A2.f 1
 have a2:=A2.c 2 _ rfl
 have f2:=A2.f 2
 have a3:=A2.c 3 _ rfl
 have f3:=A2.f 3
 have a4:=A2.c 4 _ rfl
 have f4:=A2.f 4
 have a5:=A2.c 5 _ rfl
 have f5:=A2.f 5
 have a6:=A2.c 6 _ rfl
 have f6:=A2.f 6
 have a7:=A2.c 7 _ rfl
 have f7:=A2.f 7
 have a8:=A2.c 8 _ rfl
 have f8:=A2.f 8
 have a9:=A2.c 9 _ rfl
 have f9:=A2.f 9
 have a10:=A2.c 10 _ rfl
 have f10:=A2.f 10
 have a11:=A2.c 11 _ rfl
 have f11:=A2.f 11
 have a12:=A2.c 12 _ rfl
 have f12:=A2.f 12
 refine fV 9 (by kernel_rfl) (by rfl) (by rfl) ?_
 intro K hK
 go_simp
 have A3:=A2.all [.int .i64 6,.int .i64 0,.int .i64 0,.int .i64 0,.float .f32 0,.float .f32 0,.int .i64 s.ms.g,.int .i64 s.ms.m,.int .i64 s.ms.s,.int .i64 s.ms.a,.int .i64 s.ms.n,.slice ai ss.length ci,.slice ao s.ob.length co] rfl
 have O3:=cW w.heap.size [.int .i64 6,.int .i64 0,.int .i64 0,.int .i64 0,.float .f32 0,.float .f32 0,.int .i64 s.ms.g,.int .i64 s.ms.m,.int .i64 s.ms.s,.int .i64 s.ms.a,.int .i64 s.ms.n,.slice ai ss.length ci,.slice ao s.ob.length co] w2 0
 refine hK _ _ ?_ ?_
 ·exact hHeld.only O3 (fun e=>hne e)
 refine wpAnyH_done (by kernel_rfl) ?_ _
 have b0:=A3.c 0 _ rfl
 have b1:=A3.c 1 _ rfl
 have b2:=A3.c 2 _ rfl
 have b3:=A3.c 3 _ rfl
 have b4:=A3.c 4 _ rfl
 have b5:=A3.c 5 _ rfl
 have b6:=A3.c 6 _ rfl
 have b7:=A3.c 7 _ rfl
 have b8:=A3.c 8 _ rfl
 have b9:=A3.c 9 _ rfl
 have b10:=A3.c 10 _ rfl
 have b11:=A3.c 11 _ rfl
 have b12:=A3.c 12 _ rfl
 have z0:w.heap.size+1=(w.alloc (.cells #[.int .i64 0,.int .i64 0,.int .i64 0,.int .i64 0,.float .f32 0,.float .f32 0,.int .i64 0,.int .i64 0,.int .i64 0,.int .i64 0,.int .i64 0,.slice none 0 0,.slice none 0 0] 139)).drew.heap.size:=by simp
 go_wp2
 refine bodyPost_ret (v:=rv 6 0 bT s.ms (.slice ai ss.length ci) (.slice ao s.ob.length co)) (by simp[results,results121,rv,bT,go_sem, *]) rfl ⟨_,_,ss,rfl,hp,hs,?_,?_,?_⟩
 ·exact OwnI.base ((O3.own ((Only.grown g2).own h1 (by simp))) (fun j hj e=>by have:=(OwnI.lt h1 j hj).1;rw[<- z0] at this;omega)) (Nat.le_trans (Nat.le_succ _) (Nat.le_of_eq z0))
 ·exact OwnE.base (O3.own h2 (fun j hj e=>by have:=(OwnE.lt h2 j hj).1;rw[<- z0] at z1;omega)) (Nat.le_trans (Nat.le_trans (Nat.le_succ _) (Nat.le_of_eq z0)) z1)
 ·exact (((Only.grown (G0.out.trans (g1.trans g2))).mono (A':=fun _=>False) (by simp)).trans (O3.mono (fun _ _ e=>.inr (Nat.le_of_eq e.symm)))).fresh (fun _ _ h=>h)
def Sh.snapRec (s:Sh):Rc:=⟨6,0,bT,{s.ms with g:=s.ms.g+1},cH s.th,s.ob⟩
theorem vW {w:World}{B:Nat}{e:TypeId}{size:Nat}{v:Value}{n:Nat}{xs:List Value}(h:w.ownsRow B e size v n xs):Lies w v n xs:=by
 rcases h.2 with ⟨rfl,rfl⟩ | ⟨g,cap,cur,rfl,_⟩
 ·exact ⟨none,0,rfl,by omega⟩
 ·refine ⟨_,_,rfl,fun _=>⟨g,0,rfl,fun j u hj=>?_⟩⟩
  have:=h.cellAt j (by rw[<- h.1];exact (List.getElem?_eq_some_iff.1 hj).1)
  rw[hj] at this
  simpa using this
theorem jH {w:World}{B:Nat}{v:Value}{is:List It}(h:OwnI B w v is):bH w v is:=vW h
theorem lY {w:World}{B:Nat}{v:Value}{es:List En}(h:OwnE B w v es):bL w v es:=vW h
theorem Dk.Ok.put {d:Dk}(ok:d.Ok)(n:Nat)(l:List UInt8)(m:Nat)(hm:m<=l.length)(hl:l.length<=10000):(d.put n l m).Ok:=by
 unfold Dk.put
 split
 ·exact ⟨hm,ok.a1,hl,ok.b1,ok.u,ok.u'⟩
 ·exact ⟨ok.a0,hm,ok.b0,hl,ok.u,ok.u'⟩
theorem Dk.Ok.cut {d:Dk}(ok:d.Ok)(n:Nat):(d.cut n).1.Ok:=by
 unfold Dk.cut
 split
 ·exact ok.act.put n [] 0 (Nat.le_refl _) (Nat.zero_le _)
 ·exact ok.act
theorem qQ (d:Dk)(n:Nat)(h:(d.cut n).2=true):((d.cut n).1.file n).length=0:=by
 unfold Dk.cut at *
 split
 ·unfold Dk.put Dk.file
  by_cases h0:n=0<;>simp[h0]
 ·rename_i hh
  rw[if_neg hh] at h
  cases h
theorem aDg (b bd:Nat)(mv ov:Value)(s:Sh)(w:World)(h:At w b (s.cells bd mv ov))(hg:s.ms.g=65535):
  Calls prog 68 #[.pointer (some ⟨b,0,none⟩)] w fun e w'=>e=.returned (.int .i64 5)/\w'=w:=by
 have c9:=h.c 9 _ rfl
 rw[hg] at c9
 clear h
 go_enter func68,ntmps68
 go_wp2
 go_ret
 exact ⟨rfl,rfl⟩
theorem aDh (B b bd bm:Nat)(ov:Value)(s:Sh)(w:World)(h:SU w B b s bd bm ov)(hl:s.th.length<=1000)(hlo:s.ob.length<=1000)(hct:s.ct<2)(hg0:0<=s.ms.g)(hg1:s.ms.g<65535)(hm:aP s.snapRec=true)(wf:WfR s.snapRec)(hc:s.cJ<((aY s.snapRec).length:Int)):
  Calls prog 68 #[.pointer (some ⟨b,0,none⟩)] w fun e w'=>e=.returned (.int .i64 5)/\w.grownBy w' none:=by
 have H:=Hid.mk' h
 have hfl:(aY s.snapRec).length<=1200:=by have:=(dM s.snapRec hm).2;unfold aY;rw[List.length_append];simp[n2];omega
 have hbl:=h.hs.at_.lt
 have hdl:=h.dk.lt
 have hsf:=aK
 have c3:=h.hs.at_.c 3 _ rfl
 have c4:=h.hs.at_.c 4 _ rfl
 have c6:=h.hs.at_.c 6 _ rfl
 have c9:=h.hs.at_.c 9 _ rfl
 have zl:=aQ (aY s.snapRec)
 have BA:=Hid.mk' (lX B b bd bm ov s w h.hs hl hlo)
 have nd:=Hid.mk' h.hs.mp.nd
 have FRM:Hid (∀(vi vo:Value) (W:World),bH W vi (cH s.th)->bL W vo s.ob->Calls prog 122 #[rv 6 0 bT {s.ms with g:=s.ms.g+1} vi vo] W fun e w'=>e=.returned (.string (S (aY s.snapRec)))/\W.grownBy w' none):=Hid.mk' fun vi vo W h1 h2=>dT s.snapRec vi vo W h1 h2 hm wf
 have oct:1 -s.ct<2:=by omega
 have ect:(1:Int) -(s.ct:Int)=((1 -s.ct:Nat):Int):=by omega
 have hc':=decide_eq_true hc
 clear h hm wf
 generalize hfr:aY s.snapRec=l at *
 have hgn:¬s.ms.g=65535:=by omega
 go_enter func68,ntmps68
 go_wp2_with fail
 refine Calls.mono BA.out ?_
 rintro e w1 ⟨vi,vo,ss,rfl,hp,hs,o1,o2,g1⟩
 obtain rfl:=nP hs hp nd.out
 obtain ⟨ai,ci,rfl⟩:=aJ o1
 obtain ⟨ao,co,rfl⟩:=aJ o2
 have k3:=(H.out.grown g1).hs.at_.c 3 _ rfl
 have k4:=(H.out.grown g1).hs.at_.c 4 _ rfl
 have k6:=(H.out.grown g1).hs.at_.c 6 _ rfl
 have z1:=g1.size
 have hne:b≠w1.heap.size:=by omega
 have hne2:bd≠w1.heap.size:=by omega
 have G2:=Hid.mk' (World.grownBy_alloc w1 (.cells #[.int .i64 6,.int .i64 0,.int .i64 0,.int .i64 0,.float .f32 0,.float .f32 0,.int .i64 (s.ms.g+1),.int .i64 s.ms.m,.int .i64 s.ms.s,.int .i64 s.ms.a,.int .i64 s.ms.n,.slice ai (cH s.th).length ci,.slice ao s.ob.length co] 139) none)
 have li:=Hid.mk' (jH (((Only.grown G2.out).own o1 (by simp))))
 have lo:=Hid.mk' (lY (((Only.grown G2.out).own o2 (by simp))))
 have A1:=Hid.mk' (At.new w1 [.int .i64 6,.int .i64 0,.int .i64 0,.int .i64 0,.float .f32 0,.float .f32 0,.int .i64 (s.ms.g+1),.int .i64 s.ms.m,.int .i64 s.ms.s,.int .i64 s.ms.a,.int .i64 s.ms.n,.slice ai (cH s.th).length ci,.slice ao s.ob.length co] 139)
 unfold rv bT at *
 go_wp2_with fail
 refine Calls.mono (FRM.out _ _ _ li.out lo.out) ?_
 rintro e w2 ⟨rfl,g2⟩
 have G:=Hid.mk' (g1.trans (G2.out.trans g2))
 have H2:=Hid.mk' (H.out.grown G.out)
 have A2:=Hid.mk' (A1.out.grown g2)
 have m3:=H2.out.hs.at_.c 3 _ rfl
 have m4:=H2.out.hs.at_.c 4 _ rfl
 have m6:=H2.out.hs.at_.c 6 _ rfl
 clear o1 o2 hp hs
 go_wp2
 go_ret
 exact ⟨rfl,G.out⟩
theorem aFI (B b bd bm:Nat)(ov:Value)(s:Sh)(w:World)(h:SU w B b s bd bm ov)(hl:s.th.length<=1000)(hlo:s.ob.length<=1000)(hct:s.ct<2)(hg0:0<=s.ms.g)(hg1:s.ms.g<65535)(hm:aP s.snapRec=true)(wf:WfR s.snapRec)(hc:¬s.cJ<((aY s.snapRec).length:Int))(h1:(s.dk.cut (1 -s.ct)).2=false):
  Calls prog 68 #[.pointer (some ⟨b,0,none⟩)] w fun e w'=>e=.returned (.int .i64 3)/\At w' b (s.down.cells bd (.map none) (.slice none 0 0))/\At w' bd (s.dk.cut (1 -s.ct)).1.cells/\Only w w' (fun j=>j=b∨j=bd):=by
 have H:=Hid.mk' h
 have hfl:(aY s.snapRec).length<=1200:=by have:=(dM s.snapRec hm).2;unfold aY;rw[List.length_append];simp[n2];omega
 have hbl:=h.hs.at_.lt
 have hdl:=h.dk.lt
 have hsf:=aK
 have c3:=h.hs.at_.c 3 _ rfl
 have c4:=h.hs.at_.c 4 _ rfl
 have c6:=h.hs.at_.c 6 _ rfl
 have c9:=h.hs.at_.c 9 _ rfl
 have zl:=aQ (aY s.snapRec)
 have BA:=Hid.mk' (lX B b bd bm ov s w h.hs hl hlo)
 have nd:=Hid.mk' h.hs.mp.nd
 have FRM:Hid (∀(vi vo:Value) (W:World),bH W vi (cH s.th)->bL W vo s.ob->Calls prog 122 #[rv 6 0 bT {s.ms with g:=s.ms.g+1} vi vo] W fun e w'=>e=.returned (.string (S (aY s.snapRec)))/\W.grownBy w' none):=Hid.mk' fun vi vo W h1 h2=>dT s.snapRec vi vo W h1 h2 hm wf
 have oct:1 -s.ct<2:=by omega
 have ect:(1:Int) -(s.ct:Int)=((1 -s.ct:Nat):Int):=by omega
 have CUT:Hid (∀W:World,At W bd s.dk.cells->Calls prog 123 #[.pointer (some ⟨bd,0,none⟩),.int .i64 (1 -s.ct:Nat)] W fun e w'=>e=.returned (.bool false)/\At w' bd (s.dk.cut (1 -s.ct)).1.cells/\Only W w' (fun j=>j=bd)):=Hid.mk' fun W hW=>by
  have:=mK bd s.dk (1 -s.ct) W hW h.ok oct
  rw[h1] at this
  exact this
 have hc':=decide_eq_false hc
 clear h hm wf
 generalize hfr:aY s.snapRec=l at *
 have hgn:¬s.ms.g=65535:=by omega
 go_enter func68,ntmps68
 go_wp2_with fail
 refine Calls.mono BA.out ?_
 rintro e w1 ⟨vi,vo,ss,rfl,hp,hs,o1,o2,g1⟩
 obtain rfl:=nP hs hp nd.out
 obtain ⟨ai,ci,rfl⟩:=aJ o1
 obtain ⟨ao,co,rfl⟩:=aJ o2
 have k3:=(H.out.grown g1).hs.at_.c 3 _ rfl
 have k4:=(H.out.grown g1).hs.at_.c 4 _ rfl
 have k6:=(H.out.grown g1).hs.at_.c 6 _ rfl
 have z1:=g1.size
 have hne:b≠w1.heap.size:=by omega
 have hne2:bd≠w1.heap.size:=by omega
 have G2:=Hid.mk' (World.grownBy_alloc w1 (.cells #[.int .i64 6,.int .i64 0,.int .i64 0,.int .i64 0,.float .f32 0,.float .f32 0,.int .i64 (s.ms.g+1),.int .i64 s.ms.m,.int .i64 s.ms.s,.int .i64 s.ms.a,.int .i64 s.ms.n,.slice ai (cH s.th).length ci,.slice ao s.ob.length co] 139) none)
 have li:=Hid.mk' (jH (((Only.grown G2.out).own o1 (by simp))))
 have lo:=Hid.mk' (lY (((Only.grown G2.out).own o2 (by simp))))
 have A1:=Hid.mk' (At.new w1 [.int .i64 6,.int .i64 0,.int .i64 0,.int .i64 0,.float .f32 0,.float .f32 0,.int .i64 (s.ms.g+1),.int .i64 s.ms.m,.int .i64 s.ms.s,.int .i64 s.ms.a,.int .i64 s.ms.n,.slice ai (cH s.th).length ci,.slice ao s.ob.length co] 139)
 unfold rv bT at *
 go_wp2_with fail
 refine Calls.mono (FRM.out _ _ _ li.out lo.out) ?_
 rintro e w2 ⟨rfl,g2⟩
 have G:=Hid.mk' (g1.trans (G2.out.trans g2))
 have H2:=Hid.mk' (H.out.grown G.out)
 have A2:=Hid.mk' (A1.out.grown g2)
 have m3:=H2.out.hs.at_.c 3 _ rfl
 have m4:=H2.out.hs.at_.c 4 _ rfl
 have m6:=H2.out.hs.at_.c 6 _ rfl
 clear o1 o2 hp hs
 go_wp2_with fail
 refine Calls.mono (CUT.out _ H2.out.dk) ?_
 rintro e w5 ⟨rfl,p5,o5⟩
 have Q5:=Hid.mk' (H2.out.hs.disk o5 H.out.d1 H.out.d2 H.out.d3)
 have d4:=Q5.out.at_.c 4 _ rfl
 go_wp2_with fail
 refine Calls.mono (gP b s bd _ _ w5 Q5.out.at_) ?_
 rintro e w9 ⟨rfl,h9,o9⟩
 go_wp2
 go_ret
 refine ⟨rfl,h9,p5.only o9 H.out.d1,?_⟩
 exact ((((Only.grown G.out).mono (by simp))).trans (o5.mono (fun _ _ e=>.inl (.inr e)))).trans (o9.mono (fun _ _ e=>.inl (.inl e)))
theorem aFJ (B b bd bm:Nat)(ov:Value)(s:Sh)(w:World)(h:SU w B b s bd bm ov)(hl:s.th.length<=1000)(hlo:s.ob.length<=1000)(hct:s.ct<2)(hg0:0<=s.ms.g)(hg1:s.ms.g<65535)(hm:aP s.snapRec=true)(wf:WfR s.snapRec)(hc:¬s.cJ<((aY s.snapRec).length:Int))(h1:(s.dk.cut (1 -s.ct)).2=true)(h2:((s.dk.cut (1 -s.ct)).1.append (1 -s.ct) (aY s.snapRec)).2=false):
  Calls prog 68 #[.pointer (some ⟨b,0,none⟩)] w fun e w'=>e=.returned (.int .i64 3)/\At w' b (s.down.cells bd (.map none) (.slice none 0 0))/\At w' bd ((s.dk.cut (1 -s.ct)).1.append (1 -s.ct) (aY s.snapRec)).1.cells/\Only w w' (fun j=>j=b∨j=bd):=by
 have H:=Hid.mk' h
 have hfl:(aY s.snapRec).length<=1200:=by have:=(dM s.snapRec hm).2;unfold aY;rw[List.length_append];simp[n2];omega
 have hbl:=h.hs.at_.lt
 have hdl:=h.dk.lt
 have hsf:=aK
 have c3:=h.hs.at_.c 3 _ rfl
 have c4:=h.hs.at_.c 4 _ rfl
 have c6:=h.hs.at_.c 6 _ rfl
 have c9:=h.hs.at_.c 9 _ rfl
 have zl:=aQ (aY s.snapRec)
 have BA:=Hid.mk' (lX B b bd bm ov s w h.hs hl hlo)
 have nd:=Hid.mk' h.hs.mp.nd
 have FRM:Hid (∀(vi vo:Value) (W:World),bH W vi (cH s.th)->bL W vo s.ob->Calls prog 122 #[rv 6 0 bT {s.ms with g:=s.ms.g+1} vi vo] W fun e w'=>e=.returned (.string (S (aY s.snapRec)))/\W.grownBy w' none):=Hid.mk' fun vi vo W h1 h2=>dT s.snapRec vi vo W h1 h2 hm wf
 have oct:1 -s.ct<2:=by omega
 have ect:(1:Int) -(s.ct:Int)=((1 -s.ct:Nat):Int):=by omega
 have CUT:Hid (∀W:World,At W bd s.dk.cells->Calls prog 123 #[.pointer (some ⟨bd,0,none⟩),.int .i64 (1 -s.ct:Nat)] W fun e w'=>e=.returned (.bool true)/\At w' bd (s.dk.cut (1 -s.ct)).1.cells/\Only W w' (fun j=>j=bd)):=Hid.mk' fun W hW=>by
  have:=mK bd s.dk (1 -s.ct) W hW h.ok oct
  rw[h1] at this
  exact this
 have ok1:(s.dk.cut (1 -s.ct)).1.Ok:=h.ok.cut _
 have ln1:((s.dk.cut (1 -s.ct)).1.file (1 -s.ct)).length=0:=qQ _ _ h1
 have APP:Hid (∀W:World,At W bd (s.dk.cut (1 -s.ct)).1.cells->Calls prog 124 #[.pointer (some ⟨bd,0,none⟩),.int .i64 (1 -s.ct:Nat),.string (S (aY s.snapRec))] W fun e w'=>e=.returned (.bool false)/\At w' bd ((s.dk.cut (1 -s.ct)).1.append (1 -s.ct) (aY s.snapRec)).1.cells/\Only W w' (fun j=>j=bd)):=Hid.mk' fun W hW=>by
  have:=eY bd (s.dk.cut (1 -s.ct)).1 (1 -s.ct) (aY s.snapRec) W hW ok1 oct (by omega)
  rw[h2] at this
  exact this
 clear ok1 ln1
 have hc':=decide_eq_false hc
 clear h hm wf
 generalize hfr:aY s.snapRec=l at *
 have hgn:¬s.ms.g=65535:=by omega
 go_enter func68,ntmps68
 go_wp2_with fail
 refine Calls.mono BA.out ?_
 rintro e w1 ⟨vi,vo,ss,rfl,hp,hs,o1,o2,g1⟩
 obtain rfl:=nP hs hp nd.out
 obtain ⟨ai,ci,rfl⟩:=aJ o1
 obtain ⟨ao,co,rfl⟩:=aJ o2
 have k3:=(H.out.grown g1).hs.at_.c 3 _ rfl
 have k4:=(H.out.grown g1).hs.at_.c 4 _ rfl
 have k6:=(H.out.grown g1).hs.at_.c 6 _ rfl
 have z1:=g1.size
 have hne:b≠w1.heap.size:=by omega
 have hne2:bd≠w1.heap.size:=by omega
 have G2:=Hid.mk' (World.grownBy_alloc w1 (.cells #[.int .i64 6,.int .i64 0,.int .i64 0,.int .i64 0,.float .f32 0,.float .f32 0,.int .i64 (s.ms.g+1),.int .i64 s.ms.m,.int .i64 s.ms.s,.int .i64 s.ms.a,.int .i64 s.ms.n,.slice ai (cH s.th).length ci,.slice ao s.ob.length co] 139) none)
 have li:=Hid.mk' (jH (((Only.grown G2.out).own o1 (by simp))))
 have lo:=Hid.mk' (lY (((Only.grown G2.out).own o2 (by simp))))
 have A1:=Hid.mk' (At.new w1 [.int .i64 6,.int .i64 0,.int .i64 0,.int .i64 0,.float .f32 0,.float .f32 0,.int .i64 (s.ms.g+1),.int .i64 s.ms.m,.int .i64 s.ms.s,.int .i64 s.ms.a,.int .i64 s.ms.n,.slice ai (cH s.th).length ci,.slice ao s.ob.length co] 139)
 unfold rv bT at *
 go_wp2_with fail
 refine Calls.mono (FRM.out _ _ _ li.out lo.out) ?_
 rintro e w2 ⟨rfl,g2⟩
 have G:=Hid.mk' (g1.trans (G2.out.trans g2))
 have H2:=Hid.mk' (H.out.grown G.out)
 have A2:=Hid.mk' (A1.out.grown g2)
 have m3:=H2.out.hs.at_.c 3 _ rfl
 have m4:=H2.out.hs.at_.c 4 _ rfl
 have m6:=H2.out.hs.at_.c 6 _ rfl
 clear o1 o2 hp hs
 go_wp2_with fail
 refine Calls.mono (CUT.out _ H2.out.dk) ?_
 rintro e w5 ⟨rfl,p5,o5⟩
 have Q5:=Hid.mk' (H2.out.hs.disk o5 H.out.d1 H.out.d2 H.out.d3)
 have d4:=Q5.out.at_.c 4 _ rfl
 go_wp2_with fail
 refine Calls.mono (APP.out _ p5) ?_
 rintro e w6 ⟨rfl,p6,o6⟩
 have Q6:=Hid.mk' (Q5.out.disk o6 H.out.d1 H.out.d2 H.out.d3)
 have e4:=Q6.out.at_.c 4 _ rfl
 go_wp2_with fail
 refine Calls.mono (gP b s bd _ _ w6 Q6.out.at_) ?_
 rintro e w9 ⟨rfl,h9,o9⟩
 go_wp2
 go_ret
 refine ⟨rfl,h9,p6.only o9 H.out.d1,?_⟩
 exact (((((Only.grown G.out).mono (by simp))).trans (o5.mono (fun _ _ e=>.inl (.inr e)))).trans (o6.mono (fun _ _ e=>.inl (.inr e)))).trans (o9.mono (fun _ _ e=>.inl (.inl e)))
theorem aFK (B b bd bm:Nat)(ov:Value)(s:Sh)(w:World)(h:SU w B b s bd bm ov)(hl:s.th.length<=1000)(hlo:s.ob.length<=1000)(hct:s.ct<2)(hg0:0<=s.ms.g)(hg1:s.ms.g<65535)(hm:aP s.snapRec=true)(wf:WfR s.snapRec)(hc:¬s.cJ<((aY s.snapRec).length:Int))(h1:(s.dk.cut (1 -s.ct)).2=true)(h2:((s.dk.cut (1 -s.ct)).1.append (1 -s.ct) (aY s.snapRec)).2=true)(h3:(((s.dk.cut (1 -s.ct)).1.append (1 -s.ct) (aY s.snapRec)).1.sync (1 -s.ct)).2=false):
  Calls prog 68 #[.pointer (some ⟨b,0,none⟩)] w fun e w'=>e=.returned (.int .i64 3)/\At w' b (s.down.cells bd (.map none) (.slice none 0 0))/\At w' bd (((s.dk.cut (1 -s.ct)).1.append (1 -s.ct) (aY s.snapRec)).1.sync (1 -s.ct)).1.cells/\Only w w' (fun j=>j=b∨j=bd):=by
 have H:=Hid.mk' h
 have hfl:(aY s.snapRec).length<=1200:=by have:=(dM s.snapRec hm).2;unfold aY;rw[List.length_append];simp[n2];omega
 have hbl:=h.hs.at_.lt
 have hdl:=h.dk.lt
 have hsf:=aK
 have c3:=h.hs.at_.c 3 _ rfl
 have c4:=h.hs.at_.c 4 _ rfl
 have c6:=h.hs.at_.c 6 _ rfl
 have c9:=h.hs.at_.c 9 _ rfl
 have zl:=aQ (aY s.snapRec)
 have BA:=Hid.mk' (lX B b bd bm ov s w h.hs hl hlo)
 have nd:=Hid.mk' h.hs.mp.nd
 have FRM:Hid (∀(vi vo:Value) (W:World),bH W vi (cH s.th)->bL W vo s.ob->Calls prog 122 #[rv 6 0 bT {s.ms with g:=s.ms.g+1} vi vo] W fun e w'=>e=.returned (.string (S (aY s.snapRec)))/\W.grownBy w' none):=Hid.mk' fun vi vo W h1 h2=>dT s.snapRec vi vo W h1 h2 hm wf
 have oct:1 -s.ct<2:=by omega
 have ect:(1:Int) -(s.ct:Int)=((1 -s.ct:Nat):Int):=by omega
 have CUT:Hid (∀W:World,At W bd s.dk.cells->Calls prog 123 #[.pointer (some ⟨bd,0,none⟩),.int .i64 (1 -s.ct:Nat)] W fun e w'=>e=.returned (.bool true)/\At w' bd (s.dk.cut (1 -s.ct)).1.cells/\Only W w' (fun j=>j=bd)):=Hid.mk' fun W hW=>by
  have:=mK bd s.dk (1 -s.ct) W hW h.ok oct
  rw[h1] at this
  exact this
 have ok1:(s.dk.cut (1 -s.ct)).1.Ok:=h.ok.cut _
 have ln1:((s.dk.cut (1 -s.ct)).1.file (1 -s.ct)).length=0:=qQ _ _ h1
 have APP:Hid (∀W:World,At W bd (s.dk.cut (1 -s.ct)).1.cells->Calls prog 124 #[.pointer (some ⟨bd,0,none⟩),.int .i64 (1 -s.ct:Nat),.string (S (aY s.snapRec))] W fun e w'=>e=.returned (.bool true)/\At w' bd ((s.dk.cut (1 -s.ct)).1.append (1 -s.ct) (aY s.snapRec)).1.cells/\Only W w' (fun j=>j=bd)):=Hid.mk' fun W hW=>by
  have:=eY bd (s.dk.cut (1 -s.ct)).1 (1 -s.ct) (aY s.snapRec) W hW ok1 oct (by omega)
  rw[h2] at this
  exact this
 have ok2:((s.dk.cut (1 -s.ct)).1.append (1 -s.ct) (aY s.snapRec)).1.Ok:=(ok1.append (1 -s.ct) (aY s.snapRec) (by omega)).act
 have SYN:Hid (∀W:World,At W bd ((s.dk.cut (1 -s.ct)).1.append (1 -s.ct) (aY s.snapRec)).1.cells->Calls prog 125 #[.pointer (some ⟨bd,0,none⟩),.int .i64 (1 -s.ct:Nat)] W fun e w'=>e=.returned (.bool false)/\At w' bd (((s.dk.cut (1 -s.ct)).1.append (1 -s.ct) (aY s.snapRec)).1.sync (1 -s.ct)).1.cells/\Only W w' (fun j=>j=bd)):=Hid.mk' fun W hW=>by
  have:=kS bd ((s.dk.cut (1 -s.ct)).1.append (1 -s.ct) (aY s.snapRec)).1 (1 -s.ct) W hW ok2 oct
  rw[h3] at this
  exact this
 clear ok2
 clear ok1 ln1
 have hc':=decide_eq_false hc
 clear h hm wf
 generalize hfr:aY s.snapRec=l at *
 have hgn:¬s.ms.g=65535:=by omega
 go_enter func68,ntmps68
 go_wp2_with fail
 refine Calls.mono BA.out ?_
 rintro e w1 ⟨vi,vo,ss,rfl,hp,hs,o1,o2,g1⟩
 obtain rfl:=nP hs hp nd.out
 obtain ⟨ai,ci,rfl⟩:=aJ o1
 obtain ⟨ao,co,rfl⟩:=aJ o2
 have k3:=(H.out.grown g1).hs.at_.c 3 _ rfl
 have k4:=(H.out.grown g1).hs.at_.c 4 _ rfl
 have k6:=(H.out.grown g1).hs.at_.c 6 _ rfl
 have z1:=g1.size
 have hne:b≠w1.heap.size:=by omega
 have hne2:bd≠w1.heap.size:=by omega
 have G2:=Hid.mk' (World.grownBy_alloc w1 (.cells #[.int .i64 6,.int .i64 0,.int .i64 0,.int .i64 0,.float .f32 0,.float .f32 0,.int .i64 (s.ms.g+1),.int .i64 s.ms.m,.int .i64 s.ms.s,.int .i64 s.ms.a,.int .i64 s.ms.n,.slice ai (cH s.th).length ci,.slice ao s.ob.length co] 139) none)
 have li:=Hid.mk' (jH (((Only.grown G2.out).own o1 (by simp))))
 have lo:=Hid.mk' (lY (((Only.grown G2.out).own o2 (by simp))))
 have A1:=Hid.mk' (At.new w1 [.int .i64 6,.int .i64 0,.int .i64 0,.int .i64 0,.float .f32 0,.float .f32 0,.int .i64 (s.ms.g+1),.int .i64 s.ms.m,.int .i64 s.ms.s,.int .i64 s.ms.a,.int .i64 s.ms.n,.slice ai (cH s.th).length ci,.slice ao s.ob.length co] 139)
 unfold rv bT at *
 go_wp2_with fail
 refine Calls.mono (FRM.out _ _ _ li.out lo.out) ?_
 rintro e w2 ⟨rfl,g2⟩
 have G:=Hid.mk' (g1.trans (G2.out.trans g2))
 have H2:=Hid.mk' (H.out.grown G.out)
 have A2:=Hid.mk' (A1.out.grown g2)
 have m3:=H2.out.hs.at_.c 3 _ rfl
 have m4:=H2.out.hs.at_.c 4 _ rfl
 have m6:=H2.out.hs.at_.c 6 _ rfl
 clear o1 o2 hp hs
 go_wp2_with fail
 refine Calls.mono (CUT.out _ H2.out.dk) ?_
 rintro e w5 ⟨rfl,p5,o5⟩
 have Q5:=Hid.mk' (H2.out.hs.disk o5 H.out.d1 H.out.d2 H.out.d3)
 have d4:=Q5.out.at_.c 4 _ rfl
 go_wp2_with fail
 refine Calls.mono (APP.out _ p5) ?_
 rintro e w6 ⟨rfl,p6,o6⟩
 have Q6:=Hid.mk' (Q5.out.disk o6 H.out.d1 H.out.d2 H.out.d3)
 have e4:=Q6.out.at_.c 4 _ rfl
 go_wp2_with fail
 refine Calls.mono (SYN.out _ p6) ?_
 rintro e w7 ⟨rfl,p7,o7⟩
 have Q7:=Hid.mk' (Q6.out.disk o7 H.out.d1 H.out.d2 H.out.d3)
 go_wp2_with fail
 refine Calls.mono (gP b s bd _ _ w7 Q7.out.at_) ?_
 rintro e w9 ⟨rfl,h9,o9⟩
 go_wp2
 go_ret
 refine ⟨rfl,h9,p7.only o9 H.out.d1,?_⟩
 exact ((((((Only.grown G.out).mono (by simp))).trans (o5.mono (fun _ _ e=>.inl (.inr e)))).trans (o6.mono (fun _ _ e=>.inl (.inr e)))).trans (o7.mono (fun _ _ e=>.inl (.inr e)))).trans (o9.mono (fun _ _ e=>.inl (.inl e)))
theorem aHx (B b bd bm:Nat)(ov:Value)(s:Sh)(w:World)(h:SU w B b s bd bm ov)(hl:s.th.length<=1000)(hlo:s.ob.length<=1000)(hct:s.ct<2)(hg0:0<=s.ms.g)(hg1:s.ms.g<65535)(hm:aP s.snapRec=true)(wf:WfR s.snapRec)(hc:¬s.cJ<((aY s.snapRec).length:Int))(h1:(s.dk.cut (1 -s.ct)).2=true)(h2:((s.dk.cut (1 -s.ct)).1.append (1 -s.ct) (aY s.snapRec)).2=true)(h3:(((s.dk.cut (1 -s.ct)).1.append (1 -s.ct) (aY s.snapRec)).1.sync (1 -s.ct)).2=true):
  Calls prog 68 #[.pointer (some ⟨b,0,none⟩)] w fun e w'=>e=.returned (.int .i64 0)/\HS w' B b {s with ct:=1 -s.ct,ms:={s.ms with g:=s.ms.g+1}} bd bm ov/\At w' bd (((s.dk.cut (1 -s.ct)).1.append (1 -s.ct) (aY s.snapRec)).1.sync (1 -s.ct)).1.cells/\Only w w' (fun j=>j=b∨j=bd):=by
 have H:=Hid.mk' h
 have hfl:(aY s.snapRec).length<=1200:=by have:=(dM s.snapRec hm).2;unfold aY;rw[List.length_append];simp[n2];omega
 have hbl:=h.hs.at_.lt
 have hdl:=h.dk.lt
 have hsf:=aK
 have c3:=h.hs.at_.c 3 _ rfl
 have c4:=h.hs.at_.c 4 _ rfl
 have c6:=h.hs.at_.c 6 _ rfl
 have c9:=h.hs.at_.c 9 _ rfl
 have zl:=aQ (aY s.snapRec)
 have BA:=Hid.mk' (lX B b bd bm ov s w h.hs hl hlo)
 have nd:=Hid.mk' h.hs.mp.nd
 have FRM:Hid (∀(vi vo:Value) (W:World),bH W vi (cH s.th)->bL W vo s.ob->Calls prog 122 #[rv 6 0 bT {s.ms with g:=s.ms.g+1} vi vo] W fun e w'=>e=.returned (.string (S (aY s.snapRec)))/\W.grownBy w' none):=Hid.mk' fun vi vo W h1 h2=>dT s.snapRec vi vo W h1 h2 hm wf
 have oct:1 -s.ct<2:=by omega
 have ect:(1:Int) -(s.ct:Int)=((1 -s.ct:Nat):Int):=by omega
 have CUT:Hid (∀W:World,At W bd s.dk.cells->Calls prog 123 #[.pointer (some ⟨bd,0,none⟩),.int .i64 (1 -s.ct:Nat)] W fun e w'=>e=.returned (.bool true)/\At w' bd (s.dk.cut (1 -s.ct)).1.cells/\Only W w' (fun j=>j=bd)):=Hid.mk' fun W hW=>by
  have:=mK bd s.dk (1 -s.ct) W hW h.ok oct
  rw[h1] at this
  exact this
 have ok1:(s.dk.cut (1 -s.ct)).1.Ok:=h.ok.cut _
 have ln1:((s.dk.cut (1 -s.ct)).1.file (1 -s.ct)).length=0:=qQ _ _ h1
 have APP:Hid (∀W:World,At W bd (s.dk.cut (1 -s.ct)).1.cells->Calls prog 124 #[.pointer (some ⟨bd,0,none⟩),.int .i64 (1 -s.ct:Nat),.string (S (aY s.snapRec))] W fun e w'=>e=.returned (.bool true)/\At w' bd ((s.dk.cut (1 -s.ct)).1.append (1 -s.ct) (aY s.snapRec)).1.cells/\Only W w' (fun j=>j=bd)):=Hid.mk' fun W hW=>by
  have:=eY bd (s.dk.cut (1 -s.ct)).1 (1 -s.ct) (aY s.snapRec) W hW ok1 oct (by omega)
  rw[h2] at this
  exact this
 have ok2:((s.dk.cut (1 -s.ct)).1.append (1 -s.ct) (aY s.snapRec)).1.Ok:=(ok1.append (1 -s.ct) (aY s.snapRec) (by omega)).act
 have SYN:Hid (∀W:World,At W bd ((s.dk.cut (1 -s.ct)).1.append (1 -s.ct) (aY s.snapRec)).1.cells->Calls prog 125 #[.pointer (some ⟨bd,0,none⟩),.int .i64 (1 -s.ct:Nat)] W fun e w'=>e=.returned (.bool true)/\At w' bd (((s.dk.cut (1 -s.ct)).1.append (1 -s.ct) (aY s.snapRec)).1.sync (1 -s.ct)).1.cells/\Only W w' (fun j=>j=bd)):=Hid.mk' fun W hW=>by
  have:=kS bd ((s.dk.cut (1 -s.ct)).1.append (1 -s.ct) (aY s.snapRec)).1 (1 -s.ct) W hW ok2 oct
  rw[h3] at this
  exact this
 clear ok2
 clear ok1 ln1
 have hc':=decide_eq_false hc
 clear h hm wf
 generalize hfr:aY s.snapRec=l at *
 have hgn:¬s.ms.g=65535:=by omega
 go_enter func68,ntmps68
 go_wp2_with fail
 refine Calls.mono BA.out ?_
 rintro e w1 ⟨vi,vo,ss,rfl,hp,hs,o1,o2,g1⟩
 obtain rfl:=nP hs hp nd.out
 obtain ⟨ai,ci,rfl⟩:=aJ o1
 obtain ⟨ao,co,rfl⟩:=aJ o2
 have k3:=(H.out.grown g1).hs.at_.c 3 _ rfl
 have k4:=(H.out.grown g1).hs.at_.c 4 _ rfl
 have k6:=(H.out.grown g1).hs.at_.c 6 _ rfl
 have z1:=g1.size
 have hne:b≠w1.heap.size:=by omega
 have hne2:bd≠w1.heap.size:=by omega
 have G2:=Hid.mk' (World.grownBy_alloc w1 (.cells #[.int .i64 6,.int .i64 0,.int .i64 0,.int .i64 0,.float .f32 0,.float .f32 0,.int .i64 (s.ms.g+1),.int .i64 s.ms.m,.int .i64 s.ms.s,.int .i64 s.ms.a,.int .i64 s.ms.n,.slice ai (cH s.th).length ci,.slice ao s.ob.length co] 139) none)
 have li:=Hid.mk' (jH (((Only.grown G2.out).own o1 (by simp))))
 have lo:=Hid.mk' (lY (((Only.grown G2.out).own o2 (by simp))))
 have A1:=Hid.mk' (At.new w1 [.int .i64 6,.int .i64 0,.int .i64 0,.int .i64 0,.float .f32 0,.float .f32 0,.int .i64 (s.ms.g+1),.int .i64 s.ms.m,.int .i64 s.ms.s,.int .i64 s.ms.a,.int .i64 s.ms.n,.slice ai (cH s.th).length ci,.slice ao s.ob.length co] 139)
 unfold rv bT at *
 go_wp2_with fail
 refine Calls.mono (FRM.out _ _ _ li.out lo.out) ?_
 rintro e w2 ⟨rfl,g2⟩
 have G:=Hid.mk' (g1.trans (G2.out.trans g2))
 have H2:=Hid.mk' (H.out.grown G.out)
 have A2:=Hid.mk' (A1.out.grown g2)
 have m3:=H2.out.hs.at_.c 3 _ rfl
 have m4:=H2.out.hs.at_.c 4 _ rfl
 have m6:=H2.out.hs.at_.c 6 _ rfl
 clear o1 o2 hp hs
 go_wp2_with fail
 refine Calls.mono (CUT.out _ H2.out.dk) ?_
 rintro e w5 ⟨rfl,p5,o5⟩
 have Q5:=Hid.mk' (H2.out.hs.disk o5 H.out.d1 H.out.d2 H.out.d3)
 have d4:=Q5.out.at_.c 4 _ rfl
 go_wp2_with fail
 refine Calls.mono (APP.out _ p5) ?_
 rintro e w6 ⟨rfl,p6,o6⟩
 have Q6:=Hid.mk' (Q5.out.disk o6 H.out.d1 H.out.d2 H.out.d3)
 have e4:=Q6.out.at_.c 4 _ rfl
 go_wp2_with fail
 refine Calls.mono (SYN.out _ p6) ?_
 rintro e w7 ⟨rfl,p7,o7⟩
 have Q7:=Hid.mk' (Q6.out.disk o7 H.out.d1 H.out.d2 H.out.d3)
 have A7:=(((A2.out.only o5 (fun e=>hne2 e.symm)).only o6 (fun e=>hne2 e.symm)).only o7 (fun e=>hne2 e.symm))
 have a6:=A7.c 6 _ rfl
 have a7:=A7.c 7 _ rfl
 have a8:=A7.c 8 _ rfl
 have a9:=A7.c 9 _ rfl
 have a10:=A7.c 10 _ rfl
 have n6:=Q7.out.at_.c 6 _ rfl
 have f6:=Q7.out.at_.f 6
 have n9:=Q7.out.at_.c 9 _ rfl
 have f9:=Q7.out.at_.f 9
 have n10:=Q7.out.at_.c 10 _ rfl
 have f10:=Q7.out.at_.f 10
 have n11:=Q7.out.at_.c 11 _ rfl
 have f11:=Q7.out.at_.f 11
 have n12:=Q7.out.at_.c 12 _ rfl
 have f12:=Q7.out.at_.f 12
 have n13:=Q7.out.at_.c 13 _ rfl
 have f13:=Q7.out.at_.f 13
 go_wp2
 go_ret
 have A8:=((((((Q7.out.at_.put 6 (.int .i64 (1 -s.ct:Nat)) (by simp[Sh.cells])).put 9 (.int .i64 (s.ms.g+1)) (by simp[Sh.cells])).put 10 (.int .i64 s.ms.m) (by simp[Sh.cells])).put 11 (.int .i64 s.ms.s) (by simp[Sh.cells])).put 12 (.int .i64 s.ms.a) (by simp[Sh.cells])).put 13 (.int .i64 s.ms.n) (by simp[Sh.cells]))
 have O8:=((((((Only.set w7 b 6 (.int .i64 (1 -s.ct:Nat))).trans ((Only.set _ b 9 (.int .i64 (s.ms.g+1))).mono (fun _ _ e=>.inl e))).trans ((Only.set _ b 10 (.int .i64 s.ms.m)).mono (fun _ _ e=>.inl e))).trans ((Only.set _ b 11 (.int .i64 s.ms.s)).mono (fun _ _ e=>.inl e))).trans ((Only.set _ b 12 (.int .i64 s.ms.a)).mono (fun _ _ e=>.inl e))).trans ((Only.set _ b 13 (.int .i64 s.ms.n)).mono (fun _ _ e=>.inl e)))
 refine ⟨rfl,⟨A8,Q7.out.mp.only O8 Q7.out.n2,O8.own Q7.out.ob (fun j hj e=>Q7.out.n1 (by rw[<- e];exact hj)),Q7.out.n1,Q7.out.n2,Q7.out.n3,Nat.le_trans Q7.out.hB O8.size⟩,p7.only O8 H.out.d1,?_⟩
 exact ((((((Only.grown G.out).mono (by simp))).trans (o5.mono (fun _ _ e=>.inl (.inr e)))).trans (o6.mono (fun _ _ e=>.inl (.inr e)))).trans (o7.mono (fun _ _ e=>.inl (.inr e)))).trans (O8.mono (fun _ _ e=>.inl (.inl e)))
end Go.Proofs.YtammnaafdhhjaaaGreat
