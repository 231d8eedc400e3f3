import Derived.Deep.RegionWith
import Derived.Test.YtammnaafdhhjaaaGreatRows
import Derived.Test.YtammnaafdhhjaaaGreatS6
import Derived.Test.YtammnaafdhhjaaaGreatJG7
import Derived.Test.YtammnaafdhhjaaaGreatJG13
set_option maxHeartbeats 16000000
set_option maxRecDepth 100000
namespace Go.Proofs.YtammnaafdhhjaaaGreat
open Go.RowKit
theorem journal_full (B b bd bm : Nat) (ov : Value) (s : Sh) (r : Rc) (w : World) (h : SU w B b s bd bm ov) (hr : r.items = [] /\ r.outs = []) (hm : mayB r = true) (wf : WfR r) (hct : s.ct < 2) (hcj : s.cJ <= 5000) (hc : s.cJ < ((s.dk.file s.ct).length : Int) + ((frm r).length : Int)) :
    Calls Tryz.prog 134 #[.pointer (some ⟨b, 0, none⟩), rv r.kind r.seq r.it r.mks (.slice none 0 0) (.slice none 0 0)] w fun e w' => e = .returned (.int .i64 5) /\ w.grownBy w' none := by
  have G0 := Hid.mk' (World.grownBy_alloc w (.cells #[.int .i64 r.kind, .int .i64 r.seq, .int .i64 r.it.sh, .int .i64 r.it.nu, .float .f32 r.it.pl, .float .f32 r.it.sp, .int .i64 r.mks.g, .int .i64 r.mks.m, .int .i64 r.mks.s, .int .i64 r.mks.a, .int .i64 r.mks.n, .slice none 0 0, .slice none 0 0] 139) none)
  have li : LiesI (w.alloc (.cells #[.int .i64 r.kind, .int .i64 r.seq, .int .i64 r.it.sh, .int .i64 r.it.nu, .float .f32 r.it.pl, .float .f32 r.it.sp, .int .i64 r.mks.g, .int .i64 r.mks.m, .int .i64 r.mks.s, .int .i64 r.mks.a, .int .i64 r.mks.n, .slice none 0 0, .slice none 0 0] 139)) (.slice none 0 0) r.items := by rw [hr.1]; exact ⟨none, 0, rfl, by simp⟩
  have lo : LiesE (w.alloc (.cells #[.int .i64 r.kind, .int .i64 r.seq, .int .i64 r.it.sh, .int .i64 r.it.nu, .float .f32 r.it.pl, .float .f32 r.it.sp, .int .i64 r.mks.g, .int .i64 r.mks.m, .int .i64 r.mks.s, .int .i64 r.mks.a, .int .i64 r.mks.n, .slice none 0 0, .slice none 0 0] 139)) (.slice none 0 0) r.outs := by rw [hr.2]; exact ⟨none, 0, rfl, by simp⟩
  have FR := Hid.mk' (framed_yes r _ _ _ li lo hm wf)
  have hfl : (frm r).length <= 1200 := by have := (enc_len r hm).2; unfold frm; rw [List.length_append]; simp [n2]; omega
  have H := Hid.mk' h
  have ob : (s.dk.file s.ct).length <= 10000 := by unfold Dk.file; split; exact h.ok.b0; exact h.ok.b1
  have hbl := h.hs.at_.lt
  have hdl := h.dk.lt
  have c3 := h.hs.at_.c 3 _ rfl
  have c4 := h.hs.at_.c 4 _ rfl
  have c6 := h.hs.at_.c 6 _ rfl
  have zl := S_size (frm r)
  have zf := S_size (s.dk.file s.ct)
  have hne : b ≠ w.heap.size := by omega
  have hne2 : bd ≠ w.heap.size := by omega
  have hc' := decide_eq_true hc
  have _ := hcj
  clear h li lo hr hm wf
  generalize frm r = l at *
  unfold rv at *
  go_enter Tryz.func134, Tryz.ntmps134
  go_wp2_with fail
  refine Calls.mono FR.out ?_
  rintro e w1 ⟨rfl, g1⟩
  have G1 := Hid.mk' (G0.out.trans g1)
  have H1 := Hid.mk' (H.out.grown G1.out)
  have z1 := G1.out.size
  have k3 := H1.out.hs.at_.c 3 _ rfl
  have k4 := H1.out.hs.at_.c 4 _ rfl
  have k6 := H1.out.hs.at_.c 6 _ rfl
  have A1 := Hid.mk' ((At.new w [.int .i64 r.kind, .int .i64 r.seq, .int .i64 r.it.sh, .int .i64 r.it.nu, .float .f32 r.it.pl, .float .f32 r.it.sp, .int .i64 r.mks.g, .int .i64 r.mks.m, .int .i64 r.mks.s, .int .i64 r.mks.a, .int .i64 r.mks.n, .slice none 0 0, .slice none 0 0] 139).grown g1)
  clear g1
  go_wp2_with fail
  go_quiet (exact (dkFile_any bd s.dk s.ct _ (H1.out.dk.drewN _) hct).mono (fun _ _ h => ⟨h.1, _, h.2⟩))
  go_wp2
  go_ret
  exact ⟨rfl, grownBy_drewN G1.out nq⟩
theorem journal_down1 (B b bd bm : Nat) (ov : Value) (s : Sh) (r : Rc) (w : World) (h : SU w B b s bd bm ov) (hr : r.items = [] /\ r.outs = []) (hm : mayB r = true) (wf : WfR r) (hct : s.ct < 2) (hcj : s.cJ <= 5000) (hc : ¬ s.cJ < ((s.dk.file s.ct).length : Int) + ((frm r).length : Int)) (ha : (s.dk.append s.ct (frm r)).2 = false) :
    Calls Tryz.prog 134 #[.pointer (some ⟨b, 0, none⟩), rv r.kind r.seq r.it r.mks (.slice none 0 0) (.slice none 0 0)] w fun e w' => e = .returned (.int .i64 3) /\ At w' b (s.down.cells bd (.map none) (.slice none 0 0)) /\ At w' bd (s.dk.append s.ct (frm r)).1.cells /\ Only w w' (fun j => j = b ∨ j = bd) := by
  have G0 := Hid.mk' (World.grownBy_alloc w (.cells #[.int .i64 r.kind, .int .i64 r.seq, .int .i64 r.it.sh, .int .i64 r.it.nu, .float .f32 r.it.pl, .float .f32 r.it.sp, .int .i64 r.mks.g, .int .i64 r.mks.m, .int .i64 r.mks.s, .int .i64 r.mks.a, .int .i64 r.mks.n, .slice none 0 0, .slice none 0 0] 139) none)
  have li : LiesI (w.alloc (.cells #[.int .i64 r.kind, .int .i64 r.seq, .int .i64 r.it.sh, .int .i64 r.it.nu, .float .f32 r.it.pl, .float .f32 r.it.sp, .int .i64 r.mks.g, .int .i64 r.mks.m, .int .i64 r.mks.s, .int .i64 r.mks.a, .int .i64 r.mks.n, .slice none 0 0, .slice none 0 0] 139)) (.slice none 0 0) r.items := by rw [hr.1]; exact ⟨none, 0, rfl, by simp⟩
  have lo : LiesE (w.alloc (.cells #[.int .i64 r.kind, .int .i64 r.seq, .int .i64 r.it.sh, .int .i64 r.it.nu, .float .f32 r.it.pl, .float .f32 r.it.sp, .int .i64 r.mks.g, .int .i64 r.mks.m, .int .i64 r.mks.s, .int .i64 r.mks.a, .int .i64 r.mks.n, .slice none 0 0, .slice none 0 0] 139)) (.slice none 0 0) r.outs := by rw [hr.2]; exact ⟨none, 0, rfl, by simp⟩
  have FR := Hid.mk' (framed_yes r _ _ _ li lo hm wf)
  have hfl : (frm r).length <= 1200 := by have := (enc_len r hm).2; unfold frm; rw [List.length_append]; simp [n2]; omega
  have H := Hid.mk' h
  have ob : (s.dk.file s.ct).length <= 10000 := by unfold Dk.file; split; exact h.ok.b0; exact h.ok.b1
  have hbl := h.hs.at_.lt
  have hdl := h.dk.lt
  have c3 := h.hs.at_.c 3 _ rfl
  have c4 := h.hs.at_.c 4 _ rfl
  have c6 := h.hs.at_.c 6 _ rfl
  have zl := S_size (frm r)
  have zf := S_size (s.dk.file s.ct)
  have hne : b ≠ w.heap.size := by omega
  have hne2 : bd ≠ w.heap.size := by omega
  have hc' := decide_eq_false hc
  have APP : Hid (∀ W : World, At W bd s.dk.cells -> Calls Tryz.prog 124 #[.pointer (some ⟨bd, 0, none⟩), .int .i64 s.ct, .string (S (frm r))] W fun e w' => e = .returned (.bool false) /\ At w' bd (s.dk.append s.ct (frm r)).1.cells /\ Only W w' (fun j => j = bd)) := fun W hW => by
    have := dkAppend_any bd s.dk s.ct (frm r) W hW h.ok hct (by omega)
    rw [ha] at this
    exact this
  clear h li lo hr hm wf
  generalize frm r = l at *
  unfold rv at *
  go_enter Tryz.func134, Tryz.ntmps134
  go_wp2_with fail
  refine Calls.mono FR.out ?_
  rintro e w1 ⟨rfl, g1⟩
  have G1 := Hid.mk' (G0.out.trans g1)
  have H1 := Hid.mk' (H.out.grown G1.out)
  have z1 := G1.out.size
  have k3 := H1.out.hs.at_.c 3 _ rfl
  have k4 := H1.out.hs.at_.c 4 _ rfl
  have k6 := H1.out.hs.at_.c 6 _ rfl
  have A1 := Hid.mk' ((At.new w [.int .i64 r.kind, .int .i64 r.seq, .int .i64 r.it.sh, .int .i64 r.it.nu, .float .f32 r.it.pl, .float .f32 r.it.sp, .int .i64 r.mks.g, .int .i64 r.mks.m, .int .i64 r.mks.s, .int .i64 r.mks.a, .int .i64 r.mks.n, .slice none 0 0, .slice none 0 0] 139).grown g1)
  clear g1
  go_wp2_with fail
  go_quiet (exact (dkFile_any bd s.dk s.ct _ (H1.out.dk.drewN _) hct).mono (fun _ _ h => ⟨h.1, _, h.2⟩))
  go_wp2_with fail
  refine wp_region_held_drew (S := fun w' => w'.cell? ⟨b, 4, none⟩ = some (.pointer (some ⟨bd, 0, none⟩)) /\ w'.cell? ⟨b, 6, none⟩ = some (.int .i64 s.ct)) (by kernel_rfl) ?_ (fun hHeld => ?_)
  · exact ⟨by simp [*], by simp [*]⟩
  refine hTy 0 rfl (by intro w hSw; obtain ⟨S0, S1⟩ := hSw; go_simp; try with_reducible rfl) ?_
  simp only [lS0, lS1]
  refine hTy 1 rfl (by intro w hSw; obtain ⟨S0, S1⟩ := hSw; go_simp; try with_reducible rfl) ?_
  simp only [lS0, lS1]
  refine hTy 2 rfl (by intro w hSw; obtain ⟨S0, S1⟩ := hSw; go_simp; try with_reducible rfl) ?_
  simp only [lS0, lS1]
  refine hTy 3 rfl (by intro w hSw; obtain ⟨S0, S1⟩ := hSw; go_simp; try with_reducible rfl) ?_
  simp only [lS0, lS1]
  refine hTy 4 rfl (by intro w hSw; obtain ⟨S0, S1⟩ := hSw; go_simp; try with_reducible rfl) ?_
  simp only [lS0, lS1]
  refine hTy 5 rfl (by intro w hSw; obtain ⟨S0, S1⟩ := hSw; go_simp; try with_reducible rfl) ?_
  simp only [lS0, lS1]
  refine hTy 6 rfl (by intro w hSw; obtain ⟨S0, S1⟩ := hSw; go_simp; try with_reducible rfl) ?_
  simp only [lS0, lS1]
  refine hTy 7 rfl (by intro w hSw; obtain ⟨S0, S1⟩ := hSw; go_simp; try with_reducible rfl) ?_
  simp only [lS0, lS1]
  refine hTy 8 rfl (by intro w hSw; obtain ⟨S0, S1⟩ := hSw; go_simp; try with_reducible rfl) ?_
  simp only [lS0, lS1]
  have q9 : At (w1.drewN nq).drew bd s.dk.cells := (H1.out.dk.drewN nq).drew
  refine hCall 9 (f := 124) (args := #[.pointer (some ⟨bd, 0, none⟩), .int .i64 s.ct, .string (S l)]) (by kernel_rfl) (by rfl) (by rfl) (by go_simp) ?_
  refine Calls.mono (APP.out _ q9) ?_
  rintro e w8 ⟨rfl, h8, o8⟩
  have O8 := Hid.mk' (((Only.refl w1 (fun j => j = bd)).drewN nq).drew.trans (o8.mono (fun _ _ e => .inl e)))
  have Q8 := Hid.mk' (H1.out.hs.disk O8.out H.out.d1 H.out.d2 H.out.d3)
  have c84 := Q8.out.at_.c 4 _ rfl
  have c86 := Q8.out.at_.c 6 _ rfl
  clear hHeld q9
  have hHeld := And.intro c84 c86
  refine ⟨_, rfl, hHeld, ?_⟩
  simp only [lS0, lS1]
  refine hTy 10 rfl (by intro w hSw; obtain ⟨S0, S1⟩ := hSw; go_simp; try with_reducible rfl) ?_
  simp only [lS0, lS1]
  refine hTy 11 rfl (by intro w hSw; obtain ⟨S0, S1⟩ := hSw; go_simp; try with_reducible rfl) ?_
  simp only [lS0, lS1]
  refine hSk 12 ?_
  simp only [lS0, lS1]
  refine hSk 13 ?_
  simp only [lS0, lS1]
  refine hSk 14 ?_
  simp only [lS0, lS1]
  refine hSk 15 ?_
  simp only [lS0, lS1]
  refine hSk 16 ?_
  simp only [lS0, lS1]
  refine hSk 17 ?_
  simp only [lS0, lS1]
  refine hSk 18 ?_
  simp only [lS0, lS1]
  refine hSk 19 ?_
  simp only [lS0, lS1]
  refine hSk 20 ?_
  simp only [lS0, lS1]
  refine hSk 21 ?_
  simp only [lS0, lS1]
  refine hTy 22 rfl (by intro w hSw; obtain ⟨S0, S1⟩ := hSw; go_simp; try with_reducible rfl) ?_
  simp only [lS0, lS1]
  refine wpAnyH_done (by kernel_rfl) ?_ _
  go_wp2_with fail
  refine Calls.mono (shFall_any b s bd _ _ w8 Q8.out.at_) ?_
  rintro e w6 ⟨rfl, h6, o6⟩
  go_wp2
  go_ret
  refine ⟨rfl, h6, h8.only o6 H.out.d1, ?_⟩
  exact ((((Only.grown G1.out).mono (by simp)).trans (O8.out.mono (fun _ _ e => .inl (.inr e))))).trans (o6.mono (fun _ _ e => .inl (.inl e)))
theorem journal_down2 (B b bd bm : Nat) (ov : Value) (s : Sh) (r : Rc) (w : World) (h : SU w B b s bd bm ov) (hr : r.items = [] /\ r.outs = []) (hm : mayB r = true) (wf : WfR r) (hct : s.ct < 2) (hcj : s.cJ <= 5000) (hc : ¬ s.cJ < ((s.dk.file s.ct).length : Int) + ((frm r).length : Int)) (ha : (s.dk.append s.ct (frm r)).2 = true) (hb : ((s.dk.append s.ct (frm r)).1.sync s.ct).2 = false) :
    Calls Tryz.prog 134 #[.pointer (some ⟨b, 0, none⟩), rv r.kind r.seq r.it r.mks (.slice none 0 0) (.slice none 0 0)] w fun e w' => e = .returned (.int .i64 3) /\ At w' b (s.down.cells bd (.map none) (.slice none 0 0)) /\ At w' bd ((s.dk.append s.ct (frm r)).1.sync s.ct).1.cells /\ Only w w' (fun j => j = b ∨ j = bd) := by
  have G0 := Hid.mk' (World.grownBy_alloc w (.cells #[.int .i64 r.kind, .int .i64 r.seq, .int .i64 r.it.sh, .int .i64 r.it.nu, .float .f32 r.it.pl, .float .f32 r.it.sp, .int .i64 r.mks.g, .int .i64 r.mks.m, .int .i64 r.mks.s, .int .i64 r.mks.a, .int .i64 r.mks.n, .slice none 0 0, .slice none 0 0] 139) none)
  have li : LiesI (w.alloc (.cells #[.int .i64 r.kind, .int .i64 r.seq, .int .i64 r.it.sh, .int .i64 r.it.nu, .float .f32 r.it.pl, .float .f32 r.it.sp, .int .i64 r.mks.g, .int .i64 r.mks.m, .int .i64 r.mks.s, .int .i64 r.mks.a, .int .i64 r.mks.n, .slice none 0 0, .slice none 0 0] 139)) (.slice none 0 0) r.items := by rw [hr.1]; exact ⟨none, 0, rfl, by simp⟩
  have lo : LiesE (w.alloc (.cells #[.int .i64 r.kind, .int .i64 r.seq, .int .i64 r.it.sh, .int .i64 r.it.nu, .float .f32 r.it.pl, .float .f32 r.it.sp, .int .i64 r.mks.g, .int .i64 r.mks.m, .int .i64 r.mks.s, .int .i64 r.mks.a, .int .i64 r.mks.n, .slice none 0 0, .slice none 0 0] 139)) (.slice none 0 0) r.outs := by rw [hr.2]; exact ⟨none, 0, rfl, by simp⟩
  have FR := Hid.mk' (framed_yes r _ _ _ li lo hm wf)
  have hfl : (frm r).length <= 1200 := by have := (enc_len r hm).2; unfold frm; rw [List.length_append]; simp [n2]; omega
  have H := Hid.mk' h
  have ob : (s.dk.file s.ct).length <= 10000 := by unfold Dk.file; split; exact h.ok.b0; exact h.ok.b1
  have hbl := h.hs.at_.lt
  have hdl := h.dk.lt
  have c3 := h.hs.at_.c 3 _ rfl
  have c4 := h.hs.at_.c 4 _ rfl
  have c6 := h.hs.at_.c 6 _ rfl
  have zl := S_size (frm r)
  have zf := S_size (s.dk.file s.ct)
  have hne : b ≠ w.heap.size := by omega
  have hne2 : bd ≠ w.heap.size := by omega
  have hc' := decide_eq_false hc
  have APP : Hid (∀ W : World, At W bd s.dk.cells -> Calls Tryz.prog 124 #[.pointer (some ⟨bd, 0, none⟩), .int .i64 s.ct, .string (S (frm r))] W fun e w' => e = .returned (.bool true) /\ At w' bd (s.dk.append s.ct (frm r)).1.cells /\ Only W w' (fun j => j = bd)) := fun W hW => by
    have := dkAppend_any bd s.dk s.ct (frm r) W hW h.ok hct (by omega)
    rw [ha] at this
    exact this
  have okA : ((if s.ct = 0 then { s.dk with f0 := s.dk.f0 ++ frm r } else { s.dk with f1 := s.dk.f1 ++ frm r } : Dk).act.1).Ok := (h.ok.append s.ct (frm r) (by omega)).act
  have SYN : Hid (∀ W : World, At W bd (s.dk.append s.ct (frm r)).1.cells -> Calls Tryz.prog 125 #[.pointer (some ⟨bd, 0, none⟩), .int .i64 s.ct] W fun e w' => e = .returned (.bool false) /\ At w' bd ((s.dk.append s.ct (frm r)).1.sync s.ct).1.cells /\ Only W w' (fun j => j = bd)) := fun W hW => by
    have := dkSync_any bd (s.dk.append s.ct (frm r)).1 s.ct W hW okA hct
    rw [hb] at this
    exact this
  clear okA
  clear h li lo hr hm wf
  generalize frm r = l at *
  unfold rv at *
  go_enter Tryz.func134, Tryz.ntmps134
  go_wp2_with fail
  refine Calls.mono FR.out ?_
  rintro e w1 ⟨rfl, g1⟩
  have G1 := Hid.mk' (G0.out.trans g1)
  have H1 := Hid.mk' (H.out.grown G1.out)
  have z1 := G1.out.size
  have k3 := H1.out.hs.at_.c 3 _ rfl
  have k4 := H1.out.hs.at_.c 4 _ rfl
  have k6 := H1.out.hs.at_.c 6 _ rfl
  have A1 := Hid.mk' ((At.new w [.int .i64 r.kind, .int .i64 r.seq, .int .i64 r.it.sh, .int .i64 r.it.nu, .float .f32 r.it.pl, .float .f32 r.it.sp, .int .i64 r.mks.g, .int .i64 r.mks.m, .int .i64 r.mks.s, .int .i64 r.mks.a, .int .i64 r.mks.n, .slice none 0 0, .slice none 0 0] 139).grown g1)
  clear g1
  go_wp2_with fail
  go_quiet (exact (dkFile_any bd s.dk s.ct _ (H1.out.dk.drewN _) hct).mono (fun _ _ h => ⟨h.1, _, h.2⟩))
  go_wp2_with fail
  refine wp_region_held_drew (S := fun w' => w'.cell? ⟨b, 4, none⟩ = some (.pointer (some ⟨bd, 0, none⟩)) /\ w'.cell? ⟨b, 6, none⟩ = some (.int .i64 s.ct)) (by kernel_rfl) ?_ (fun hHeld => ?_)
  · exact ⟨by simp [*], by simp [*]⟩
  refine hTy 0 rfl (by intro w hSw; obtain ⟨S0, S1⟩ := hSw; go_simp; try with_reducible rfl) ?_
  simp only [lS0, lS1]
  refine hTy 1 rfl (by intro w hSw; obtain ⟨S0, S1⟩ := hSw; go_simp; try with_reducible rfl) ?_
  simp only [lS0, lS1]
  refine hTy 2 rfl (by intro w hSw; obtain ⟨S0, S1⟩ := hSw; go_simp; try with_reducible rfl) ?_
  simp only [lS0, lS1]
  refine hTy 3 rfl (by intro w hSw; obtain ⟨S0, S1⟩ := hSw; go_simp; try with_reducible rfl) ?_
  simp only [lS0, lS1]
  refine hTy 4 rfl (by intro w hSw; obtain ⟨S0, S1⟩ := hSw; go_simp; try with_reducible rfl) ?_
  simp only [lS0, lS1]
  refine hTy 5 rfl (by intro w hSw; obtain ⟨S0, S1⟩ := hSw; go_simp; try with_reducible rfl) ?_
  simp only [lS0, lS1]
  refine hTy 6 rfl (by intro w hSw; obtain ⟨S0, S1⟩ := hSw; go_simp; try with_reducible rfl) ?_
  simp only [lS0, lS1]
  refine hTy 7 rfl (by intro w hSw; obtain ⟨S0, S1⟩ := hSw; go_simp; try with_reducible rfl) ?_
  simp only [lS0, lS1]
  refine hTy 8 rfl (by intro w hSw; obtain ⟨S0, S1⟩ := hSw; go_simp; try with_reducible rfl) ?_
  simp only [lS0, lS1]
  have q9 : At (w1.drewN nq).drew bd s.dk.cells := (H1.out.dk.drewN nq).drew
  refine hCall 9 (f := 124) (args := #[.pointer (some ⟨bd, 0, none⟩), .int .i64 s.ct, .string (S l)]) (by kernel_rfl) (by rfl) (by rfl) (by go_simp) ?_
  refine Calls.mono (APP.out _ q9) ?_
  rintro e w8 ⟨rfl, h8, o8⟩
  have O8 := Hid.mk' (((Only.refl w1 (fun j => j = bd)).drewN nq).drew.trans (o8.mono (fun _ _ e => .inl e)))
  have Q8 := Hid.mk' (H1.out.hs.disk O8.out H.out.d1 H.out.d2 H.out.d3)
  have c84 := Q8.out.at_.c 4 _ rfl
  have c86 := Q8.out.at_.c 6 _ rfl
  clear hHeld q9
  have hHeld := And.intro c84 c86
  refine ⟨_, rfl, hHeld, ?_⟩
  simp only [lS0, lS1]
  refine hTy 10 rfl (by intro w hSw; obtain ⟨S0, S1⟩ := hSw; go_simp; try with_reducible rfl) ?_
  simp only [lS0, lS1]
  refine hTy 11 rfl (by intro w hSw; obtain ⟨S0, S1⟩ := hSw; go_simp; try with_reducible rfl) ?_
  simp only [lS0, lS1]
  refine hTy 12 rfl (by intro w hSw; obtain ⟨S0, S1⟩ := hSw; go_simp; try with_reducible rfl) ?_
  simp only [lS0, lS1]
  refine hTy 13 rfl (by intro w hSw; obtain ⟨S0, S1⟩ := hSw; go_simp; try with_reducible rfl) ?_
  simp only [lS0, lS1]
  refine hTy 14 rfl (by intro w hSw; obtain ⟨S0, S1⟩ := hSw; go_simp; try with_reducible rfl) ?_
  simp only [lS0, lS1]
  refine hTy 15 rfl (by intro w hSw; obtain ⟨S0, S1⟩ := hSw; go_simp; try with_reducible rfl) ?_
  simp only [lS0, lS1]
  refine hTy 16 rfl (by intro w hSw; obtain ⟨S0, S1⟩ := hSw; go_simp; try with_reducible rfl) ?_
  simp only [lS0, lS1]
  refine hTy 17 rfl (by intro w hSw; obtain ⟨S0, S1⟩ := hSw; go_simp; try with_reducible rfl) ?_
  simp only [lS0, lS1]
  refine hTy 18 rfl (by intro w hSw; obtain ⟨S0, S1⟩ := hSw; go_simp; try with_reducible rfl) ?_
  simp only [lS0, lS1]
  refine hTy 19 rfl (by intro w hSw; obtain ⟨S0, S1⟩ := hSw; go_simp; try with_reducible rfl) ?_
  simp only [lS0, lS1]
  refine hCall 20 (f := 125) (args := #[.pointer (some ⟨bd, 0, none⟩), .int .i64 s.ct]) (by kernel_rfl) (by rfl) (by rfl) (by go_simp) ?_
  refine Calls.mono (SYN.out _ h8) ?_
  rintro e w7 ⟨rfl, h7, o7⟩
  have Q7 := Hid.mk' (Q8.out.disk o7 H.out.d1 H.out.d2 H.out.d3)
  have c74 := Q7.out.at_.c 4 _ rfl
  have c76 := Q7.out.at_.c 6 _ rfl
  clear hHeld
  have hHeld := And.intro c74 c76
  refine ⟨_, rfl, hHeld, ?_⟩
  simp only [lS0, lS1]
  refine hTy 21 rfl (by intro w hSw; obtain ⟨S0, S1⟩ := hSw; go_simp; try with_reducible rfl) ?_
  simp only [lS0, lS1]
  refine hTy 22 rfl (by intro w hSw; obtain ⟨S0, S1⟩ := hSw; go_simp; try with_reducible rfl) ?_
  simp only [lS0, lS1]
  refine wpAnyH_done (by kernel_rfl) ?_ _
  go_wp2_with fail
  refine Calls.mono (shFall_any b s bd _ _ w7 Q7.out.at_) ?_
  rintro e w6 ⟨rfl, h6, o6⟩
  go_wp2
  go_ret
  refine ⟨rfl, h6, h7.only o6 H.out.d1, ?_⟩
  exact (((((Only.grown G1.out).mono (by simp)).trans (O8.out.mono (fun _ _ e => .inl (.inr e)))).trans (o7.mono (fun _ _ e => .inl (.inr e))))).trans (o6.mono (fun _ _ e => .inl (.inl e)))
theorem journal_ok (B b bd bm : Nat) (ov : Value) (s : Sh) (r : Rc) (w : World) (h : SU w B b s bd bm ov) (hr : r.items = [] /\ r.outs = []) (hm : mayB r = true) (wf : WfR r) (hct : s.ct < 2) (hcj : s.cJ <= 5000) (hc : ¬ s.cJ < ((s.dk.file s.ct).length : Int) + ((frm r).length : Int)) (R : World -> World -> Prop) (hdo : ∀ W, HS W B b s bd bm ov -> Calls Tryz.prog 89 #[.pointer (some ⟨b, 0, none⟩), rv r.kind r.seq r.it r.mks (.slice none 0 0) (.slice none 0 0)] W fun e w' => e = .returned (.tuple #[]) /\ R W w') (ha : (s.dk.append s.ct (frm r)).2 = true) (hb : ((s.dk.append s.ct (frm r)).1.sync s.ct).2 = true) :
    Calls Tryz.prog 134 #[.pointer (some ⟨b, 0, none⟩), rv r.kind r.seq r.it r.mks (.slice none 0 0) (.slice none 0 0)] w fun e w' => e = .returned (.int .i64 0) /\ ∃ W, HS W B b s bd bm ov /\ At W bd ((s.dk.append s.ct (frm r)).1.sync s.ct).1.cells /\ Only w W (fun j => j = bd) /\ R W w' := by
  have G0 := Hid.mk' (World.grownBy_alloc w (.cells #[.int .i64 r.kind, .int .i64 r.seq, .int .i64 r.it.sh, .int .i64 r.it.nu, .float .f32 r.it.pl, .float .f32 r.it.sp, .int .i64 r.mks.g, .int .i64 r.mks.m, .int .i64 r.mks.s, .int .i64 r.mks.a, .int .i64 r.mks.n, .slice none 0 0, .slice none 0 0] 139) none)
  have li : LiesI (w.alloc (.cells #[.int .i64 r.kind, .int .i64 r.seq, .int .i64 r.it.sh, .int .i64 r.it.nu, .float .f32 r.it.pl, .float .f32 r.it.sp, .int .i64 r.mks.g, .int .i64 r.mks.m, .int .i64 r.mks.s, .int .i64 r.mks.a, .int .i64 r.mks.n, .slice none 0 0, .slice none 0 0] 139)) (.slice none 0 0) r.items := by rw [hr.1]; exact ⟨none, 0, rfl, by simp⟩
  have lo : LiesE (w.alloc (.cells #[.int .i64 r.kind, .int .i64 r.seq, .int .i64 r.it.sh, .int .i64 r.it.nu, .float .f32 r.it.pl, .float .f32 r.it.sp, .int .i64 r.mks.g, .int .i64 r.mks.m, .int .i64 r.mks.s, .int .i64 r.mks.a, .int .i64 r.mks.n, .slice none 0 0, .slice none 0 0] 139)) (.slice none 0 0) r.outs := by rw [hr.2]; exact ⟨none, 0, rfl, by simp⟩
  have FR := Hid.mk' (framed_yes r _ _ _ li lo hm wf)
  have hfl : (frm r).length <= 1200 := by have := (enc_len r hm).2; unfold frm; rw [List.length_append]; simp [n2]; omega
  have H := Hid.mk' h
  have ob : (s.dk.file s.ct).length <= 10000 := by unfold Dk.file; split; exact h.ok.b0; exact h.ok.b1
  have hbl := h.hs.at_.lt
  have hdl := h.dk.lt
  have c3 := h.hs.at_.c 3 _ rfl
  have c4 := h.hs.at_.c 4 _ rfl
  have c6 := h.hs.at_.c 6 _ rfl
  have zl := S_size (frm r)
  have zf := S_size (s.dk.file s.ct)
  have hne : b ≠ w.heap.size := by omega
  have hne2 : bd ≠ w.heap.size := by omega
  have hc' := decide_eq_false hc
  have APP : Hid (∀ W : World, At W bd s.dk.cells -> Calls Tryz.prog 124 #[.pointer (some ⟨bd, 0, none⟩), .int .i64 s.ct, .string (S (frm r))] W fun e w' => e = .returned (.bool true) /\ At w' bd (s.dk.append s.ct (frm r)).1.cells /\ Only W w' (fun j => j = bd)) := fun W hW => by
    have := dkAppend_any bd s.dk s.ct (frm r) W hW h.ok hct (by omega)
    rw [ha] at this
    exact this
  have okA : ((if s.ct = 0 then { s.dk with f0 := s.dk.f0 ++ frm r } else { s.dk with f1 := s.dk.f1 ++ frm r } : Dk).act.1).Ok := (h.ok.append s.ct (frm r) (by omega)).act
  have SYN : Hid (∀ W : World, At W bd (s.dk.append s.ct (frm r)).1.cells -> Calls Tryz.prog 125 #[.pointer (some ⟨bd, 0, none⟩), .int .i64 s.ct] W fun e w' => e = .returned (.bool true) /\ At w' bd ((s.dk.append s.ct (frm r)).1.sync s.ct).1.cells /\ Only W w' (fun j => j = bd)) := fun W hW => by
    have := dkSync_any bd (s.dk.append s.ct (frm r)).1 s.ct W hW okA hct
    rw [hb] at this
    exact this
  clear okA
  have DO := Hid.mk' hdo
  clear h li lo hr hm wf hdo
  generalize frm r = l at *
  unfold rv at *
  go_enter Tryz.func134, Tryz.ntmps134
  go_wp2_with fail
  refine Calls.mono FR.out ?_
  rintro e w1 ⟨rfl, g1⟩
  have G1 := Hid.mk' (G0.out.trans g1)
  have H1 := Hid.mk' (H.out.grown G1.out)
  have z1 := G1.out.size
  have k3 := H1.out.hs.at_.c 3 _ rfl
  have k4 := H1.out.hs.at_.c 4 _ rfl
  have k6 := H1.out.hs.at_.c 6 _ rfl
  have A1 := Hid.mk' ((At.new w [.int .i64 r.kind, .int .i64 r.seq, .int .i64 r.it.sh, .int .i64 r.it.nu, .float .f32 r.it.pl, .float .f32 r.it.sp, .int .i64 r.mks.g, .int .i64 r.mks.m, .int .i64 r.mks.s, .int .i64 r.mks.a, .int .i64 r.mks.n, .slice none 0 0, .slice none 0 0] 139).grown g1)
  clear g1
  go_wp2_with fail
  go_quiet (exact (dkFile_any bd s.dk s.ct _ (H1.out.dk.drewN _) hct).mono (fun _ _ h => ⟨h.1, _, h.2⟩))
  go_wp2_with fail
  refine wp_region_held_drew (S := fun w' => w'.cell? ⟨b, 4, none⟩ = some (.pointer (some ⟨bd, 0, none⟩)) /\ w'.cell? ⟨b, 6, none⟩ = some (.int .i64 s.ct)) (by kernel_rfl) ?_ (fun hHeld => ?_)
  · exact ⟨by simp [*], by simp [*]⟩
  refine hTy 0 rfl (by intro w hSw; obtain ⟨S0, S1⟩ := hSw; go_simp; try with_reducible rfl) ?_
  simp only [lS0, lS1]
  refine hTy 1 rfl (by intro w hSw; obtain ⟨S0, S1⟩ := hSw; go_simp; try with_reducible rfl) ?_
  simp only [lS0, lS1]
  refine hTy 2 rfl (by intro w hSw; obtain ⟨S0, S1⟩ := hSw; go_simp; try with_reducible rfl) ?_
  simp only [lS0, lS1]
  refine hTy 3 rfl (by intro w hSw; obtain ⟨S0, S1⟩ := hSw; go_simp; try with_reducible rfl) ?_
  simp only [lS0, lS1]
  refine hTy 4 rfl (by intro w hSw; obtain ⟨S0, S1⟩ := hSw; go_simp; try with_reducible rfl) ?_
  simp only [lS0, lS1]
  refine hTy 5 rfl (by intro w hSw; obtain ⟨S0, S1⟩ := hSw; go_simp; try with_reducible rfl) ?_
  simp only [lS0, lS1]
  refine hTy 6 rfl (by intro w hSw; obtain ⟨S0, S1⟩ := hSw; go_simp; try with_reducible rfl) ?_
  simp only [lS0, lS1]
  refine hTy 7 rfl (by intro w hSw; obtain ⟨S0, S1⟩ := hSw; go_simp; try with_reducible rfl) ?_
  simp only [lS0, lS1]
  refine hTy 8 rfl (by intro w hSw; obtain ⟨S0, S1⟩ := hSw; go_simp; try with_reducible rfl) ?_
  simp only [lS0, lS1]
  have q9 : At (w1.drewN nq).drew bd s.dk.cells := (H1.out.dk.drewN nq).drew
  refine hCall 9 (f := 124) (args := #[.pointer (some ⟨bd, 0, none⟩), .int .i64 s.ct, .string (S l)]) (by kernel_rfl) (by rfl) (by rfl) (by go_simp) ?_
  refine Calls.mono (APP.out _ q9) ?_
  rintro e w8 ⟨rfl, h8, o8⟩
  have O8 := Hid.mk' (((Only.refl w1 (fun j => j = bd)).drewN nq).drew.trans (o8.mono (fun _ _ e => .inl e)))
  have Q8 := Hid.mk' (H1.out.hs.disk O8.out H.out.d1 H.out.d2 H.out.d3)
  have c84 := Q8.out.at_.c 4 _ rfl
  have c86 := Q8.out.at_.c 6 _ rfl
  clear hHeld q9
  have hHeld := And.intro c84 c86
  refine ⟨_, rfl, hHeld, ?_⟩
  simp only [lS0, lS1]
  refine hTy 10 rfl (by intro w hSw; obtain ⟨S0, S1⟩ := hSw; go_simp; try with_reducible rfl) ?_
  simp only [lS0, lS1]
  refine hTy 11 rfl (by intro w hSw; obtain ⟨S0, S1⟩ := hSw; go_simp; try with_reducible rfl) ?_
  simp only [lS0, lS1]
  refine hTy 12 rfl (by intro w hSw; obtain ⟨S0, S1⟩ := hSw; go_simp; try with_reducible rfl) ?_
  simp only [lS0, lS1]
  refine hTy 13 rfl (by intro w hSw; obtain ⟨S0, S1⟩ := hSw; go_simp; try with_reducible rfl) ?_
  simp only [lS0, lS1]
  refine hTy 14 rfl (by intro w hSw; obtain ⟨S0, S1⟩ := hSw; go_simp; try with_reducible rfl) ?_
  simp only [lS0, lS1]
  refine hTy 15 rfl (by intro w hSw; obtain ⟨S0, S1⟩ := hSw; go_simp; try with_reducible rfl) ?_
  simp only [lS0, lS1]
  refine hTy 16 rfl (by intro w hSw; obtain ⟨S0, S1⟩ := hSw; go_simp; try with_reducible rfl) ?_
  simp only [lS0, lS1]
  refine hTy 17 rfl (by intro w hSw; obtain ⟨S0, S1⟩ := hSw; go_simp; try with_reducible rfl) ?_
  simp only [lS0, lS1]
  refine hTy 18 rfl (by intro w hSw; obtain ⟨S0, S1⟩ := hSw; go_simp; try with_reducible rfl) ?_
  simp only [lS0, lS1]
  refine hTy 19 rfl (by intro w hSw; obtain ⟨S0, S1⟩ := hSw; go_simp; try with_reducible rfl) ?_
  simp only [lS0, lS1]
  refine hCall 20 (f := 125) (args := #[.pointer (some ⟨bd, 0, none⟩), .int .i64 s.ct]) (by kernel_rfl) (by rfl) (by rfl) (by go_simp) ?_
  refine Calls.mono (SYN.out _ h8) ?_
  rintro e w7 ⟨rfl, h7, o7⟩
  have Q7 := Hid.mk' (Q8.out.disk o7 H.out.d1 H.out.d2 H.out.d3)
  have c74 := Q7.out.at_.c 4 _ rfl
  have c76 := Q7.out.at_.c 6 _ rfl
  clear hHeld
  have hHeld := And.intro c74 c76
  refine ⟨_, rfl, hHeld, ?_⟩
  simp only [lS0, lS1]
  refine hTy 21 rfl (by intro w hSw; obtain ⟨S0, S1⟩ := hSw; go_simp; try with_reducible rfl) ?_
  simp only [lS0, lS1]
  refine hTy 22 rfl (by intro w hSw; obtain ⟨S0, S1⟩ := hSw; go_simp; try with_reducible rfl) ?_
  simp only [lS0, lS1]
  refine wpAnyH_done (by kernel_rfl) ?_ _
  have A7 := (A1.out.only O8.out (fun e => hne2 e.symm)).only o7 (fun e => hne2 e.symm)
  have a0 := A7.c 0 _ rfl
  have a1 := A7.c 1 _ rfl
  have a2 := A7.c 2 _ rfl
  have a3 := A7.c 3 _ rfl
  have a4 := A7.c 4 _ rfl
  have a5 := A7.c 5 _ rfl
  have a6 := A7.c 6 _ rfl
  have a7 := A7.c 7 _ rfl
  have a8 := A7.c 8 _ rfl
  have a9 := A7.c 9 _ rfl
  have a10 := A7.c 10 _ rfl
  have a11 := A7.c 11 _ rfl
  have a12 := A7.c 12 _ rfl
  clear A7
  go_wp2_with fail
  refine Calls.mono (DO.out w7 Q7.out) ?_
  rintro e w6 ⟨rfl, h6⟩
  go_wp2
  go_ret
  refine ⟨rfl, w7, Q7.out, h7, ?_, h6⟩
  exact (((Only.grown G1.out).mono (by simp)).trans (O8.out.mono (fun _ _ e => .inl e))).trans (o7.mono (fun _ _ e => .inl e))
theorem At.putL_from {b : Nat} : ∀ (vs ys A : List Value) (w : World) (p : Nat), vs.length = ys.length -> A.length = p -> At w b (A ++ ys) -> At (putL w b p vs) b (A ++ vs)
  | [], [], A, w, p, _, _, h => by simpa [putL] using h
  | v :: r, y :: ys, A, w, p, hl, hp, h => by
    have h1 := h.put p v (by simp; omega)
    have e : (A ++ y :: ys).set p v = (A ++ [v]) ++ ys := by
      rw [List.set_append_right _ _ (by omega), hp, Nat.sub_self]
      simp
    rw [e] at h1
    have h2 := At.putL_from r ys (A ++ [v]) _ (p + 1) (by simpa using hl) (by simp [hp]) h1
    simpa [putL] using h2
  | [], y :: ys, A, w, p, hl, _, _ => by simp at hl
  | v :: r, [], A, w, p, hl, _, _ => by simp at hl
theorem At.all {w : World} {b : Nat} {ys : List Value} (h : At w b ys) (vs : List Value) (hl : vs.length = ys.length) : At (putL w b 0 vs) b vs := by
  simpa using At.putL_from vs ys [] w 0 hl rfl (by simpa using h)
theorem OwnI.base {B B' : Nat} {w : World} {v : Value} {is : List It} (h : OwnI B w v is) (hB : B' <= B) : OwnI B' w v is := by
  refine ⟨h.1, h.2.imp id ?_⟩
  rintro ⟨g, cap, cur, e, h1, h2⟩
  exact ⟨g, cap, cur, e, Nat.le_trans hB h1, h2⟩
theorem OwnE.base {B B' : Nat} {w : World} {v : Value} {is : List En} (h : OwnE B w v is) (hB : B' <= B) : OwnE B' w v is := by
  refine ⟨h.1, h.2.imp id ?_⟩
  rintro ⟨g, cap, cur, e, h1, h2⟩
  exact ⟨g, cap, cur, e, Nat.le_trans hB h1, h2⟩
theorem OwnI.lt {B : Nat} {w : World} {v : Value} {es : List It} (h : OwnI B w v es) : ∀ j, v.ownBlock = some j -> B <= j /\ j < w.heap.size := fun j hj => by
  rcases h.2 with ⟨h', _⟩ | ⟨g, cap, cur, h', h1, h2, _⟩
  · rw [h'] at hj; cases hj
  · rw [h'] at hj
    injection hj with hj
    subst hj
    exact ⟨h1, (Array.getElem?_eq_some_iff.1 h2).1⟩
theorem Only.fresh {w w' : World} {A : Nat -> Prop} (h : Only w w' A) (hA : ∀ k, k < w.heap.size -> ¬ A k) : w.grownBy w' none :=
  ⟨h.os, h.tape, h.output, h.size, fun k hk _ => h.block k hk (hA k hk)⟩
theorem entries_any (B b o : Nat) (ov : Value) (es : List En) (w : World) (hc : w.cell? ⟨b, o + 1, none⟩ = some ov) (h : OwnE B w ov es) (hl : es.length <= 1000) :
    Calls Tryz.prog 84 #[.pointer (some ⟨b, o, none⟩)] w fun e w' => ∃ v, e = .returned v /\ OwnE w.heap.size w' v es /\ w.grownBy w' none := by
  have A := Hid.mk' (cloneE_any B ov es w h hl)
  clear h hl
  go_enter Tryz.func84, Tryz.ntmps84
  go_wp2_with fail
  refine Calls.mono A.out ?_
  rintro e w1 ⟨v, rfl, h1, g1⟩
  go_wp2
  go_ret
  exact ⟨v, rfl, h1, g1⟩
theorem base_any (B b bd bm : Nat) (ov : Value) (s : Sh) (w : World) (h : HS w B b s bd bm ov) (hl : s.th.length <= 1000) (hlo : s.ob.length <= 1000) :
    Calls Tryz.prog 121 #[.pointer (some ⟨b, 7, none⟩)] w fun e w' => ∃ vi vo, ∃ ss : List It, e = .returned (rv 6 0 it0 s.ms vi vo) /\ ss.Perm s.th /\ Srt ss /\ OwnI w.heap.size w' vi ss /\ OwnE w.heap.size w' vo s.ob /\ w.grownBy w' none := by
  have H := Hid.mk' h
  have hbl := h.at_.lt
  have hsf := run_store_float
  have hne : b ≠ w.heap.size := by omega
  have G0 := Hid.mk' (grownBy_drew (World.grownBy_alloc w (.cells #[.int .i64 0, .int .i64 0, .int .i64 0, .int .i64 0, .float .f32 0, .float .f32 0, .int .i64 0, .int .i64 0, .int .i64 0, .int .i64 0, .int .i64 0, .slice none 0 0, .slice none 0 0] 139) none))
  have H0 := Hid.mk' (h.grown G0.out)
  have A0 := Hid.mk' (At.new w [.int .i64 0, .int .i64 0, .int .i64 0, .int .i64 0, .float .f32 0, .float .f32 0, .int .i64 0, .int .i64 0, .int .i64 0, .int .i64 0, .int .i64 0, .slice none 0 0, .slice none 0 0] 139).drew
  clear h
  go_enter Tryz.func121, Tryz.ntmps121
  go_wp2_with fail
  refine wp_region_held_drew (S := fun w' => At w' b (s.cells bd (.map (some bm)) ov)) (by kernel_rfl) (H0.out.at_) (fun hHeld => ?_)
  refine hTk 0 ?_
  simp only [lS0, lS1]
  refine hTk 1 ?_
  simp only [lS0, lS1]
  refine hTk 2 ?_
  simp only [lS0, lS1]
  refine hTy 3 rfl (by intro w hSw; have S9 := hSw.c 9 _ rfl; have S10 := hSw.c 10 _ rfl; have S11 := hSw.c 11 _ rfl; have S12 := hSw.c 12 _ rfl; have S13 := hSw.c 13 _ rfl; go_simp; try with_reducible rfl) ?_
  simp only [lS0, lS1]
  refine hTk 4 ?_
  simp only [lS0, lS1]
  refine hTk 6 ?_
  simp only [lS0, lS1]
  refine hCall 5 (f := 83) (args := #[.pointer (some ⟨b, 7, none⟩)]) (by kernel_rfl) (by rfl) (by rfl) (by go_simp) ?_
  refine Calls.mono (inOrder_any b 7 bm s.th _ (H0.out.at_.c 7 _ rfl) H0.out.mp hl) ?_
  rintro e w1 ⟨vi, ss, rfl, hp, hs, h1, g1⟩
  clear hHeld
  have hHeld := (H0.out.grown g1).at_
  refine ⟨_, rfl, hHeld, ?_⟩
  simp only [lS0, lS1]
  have H1 := Hid.mk' (H0.out.grown g1)
  refine hCall 7 (f := 84) (args := #[.pointer (some ⟨b, 7, none⟩)]) (by kernel_rfl) (by rfl) (by rfl) (by go_simp) ?_
  refine Calls.mono (entries_any B b 7 ov s.ob _ (H1.out.at_.c 8 _ rfl) H1.out.ob hlo) ?_
  rintro e w2 ⟨vo, rfl, h2, g2⟩
  clear hHeld
  have hHeld := (H1.out.grown g2).at_
  refine ⟨_, rfl, hHeld, ?_⟩
  simp only [lS0, lS1]
  obtain ⟨ai, ci, rfl⟩ := slice_len h1
  obtain ⟨ao, co, rfl⟩ := slice_len h2
  refine hTk 8 ?_
  simp only [lS0, lS1]
  have A2 := (A0.out.grown g1).grown g2
  have z1 := g1.size
  have z2 := g2.size
  have s1 : w.heap.size < (w.alloc (.cells #[.int .i64 0, .int .i64 0, .int .i64 0, .int .i64 0, .float .f32 0, .float .f32 0, .int .i64 0, .int .i64 0, .int .i64 0, .int .i64 0, .int .i64 0, .slice none 0 0, .slice none 0 0] 139)).drew.heap.size := by simp
  have a0 := A2.c 0 _ rfl
  have f0 := A2.f 0
  have a1 := A2.c 1 _ rfl
  have f1 := A2.f 1
  have a2 := A2.c 2 _ rfl
  have f2 := A2.f 2
  have a3 := A2.c 3 _ rfl
  have f3 := A2.f 3
  have a4 := A2.c 4 _ rfl
  have f4 := A2.f 4
  have a5 := A2.c 5 _ rfl
  have f5 := A2.f 5
  have a6 := A2.c 6 _ rfl
  have f6 := A2.f 6
  have a7 := A2.c 7 _ rfl
  have f7 := A2.f 7
  have a8 := A2.c 8 _ rfl
  have f8 := A2.f 8
  have a9 := A2.c 9 _ rfl
  have f9 := A2.f 9
  have a10 := A2.c 10 _ rfl
  have f10 := A2.f 10
  have a11 := A2.c 11 _ rfl
  have f11 := A2.f 11
  have a12 := A2.c 12 _ rfl
  have f12 := A2.f 12
  refine hRun 9 (by kernel_rfl) (by rfl) (by rfl) ?_
  intro K hK
  go_simp
  have A3 := A2.all [.int .i64 6, .int .i64 0, .int .i64 0, .int .i64 0, .float .f32 0, .float .f32 0, .int .i64 s.ms.g, .int .i64 s.ms.m, .int .i64 s.ms.s, .int .i64 s.ms.a, .int .i64 s.ms.n, .slice ai ss.length ci, .slice ao s.ob.length co] rfl
  have O3 := putL_only w.heap.size [.int .i64 6, .int .i64 0, .int .i64 0, .int .i64 0, .float .f32 0, .float .f32 0, .int .i64 s.ms.g, .int .i64 s.ms.m, .int .i64 s.ms.s, .int .i64 s.ms.a, .int .i64 s.ms.n, .slice ai ss.length ci, .slice ao s.ob.length co] w2 0
  refine hK _ _ ?_ ?_
  · exact hHeld.only O3 (fun e => hne e)
  refine wpAnyH_done (by kernel_rfl) ?_ _
  have b0 := A3.c 0 _ rfl
  have b1 := A3.c 1 _ rfl
  have b2 := A3.c 2 _ rfl
  have b3 := A3.c 3 _ rfl
  have b4 := A3.c 4 _ rfl
  have b5 := A3.c 5 _ rfl
  have b6 := A3.c 6 _ rfl
  have b7 := A3.c 7 _ rfl
  have b8 := A3.c 8 _ rfl
  have b9 := A3.c 9 _ rfl
  have b10 := A3.c 10 _ rfl
  have b11 := A3.c 11 _ rfl
  have b12 := A3.c 12 _ rfl
  have z0 : w.heap.size + 1 = (w.alloc (.cells #[.int .i64 0, .int .i64 0, .int .i64 0, .int .i64 0, .float .f32 0, .float .f32 0, .int .i64 0, .int .i64 0, .int .i64 0, .int .i64 0, .int .i64 0, .slice none 0 0, .slice none 0 0] 139)).drew.heap.size := by simp
  go_wp2
  refine bodyPost_ret (v := rv 6 0 it0 s.ms (.slice ai ss.length ci) (.slice ao s.ob.length co)) (by simp [results, Tryz.results121, rv, it0, go_sem, *]) rfl ⟨_, _, ss, rfl, hp, hs, ?_, ?_, ?_⟩
  · exact OwnI.base ((O3.own ((Only.grown g2).own h1 (by simp))) (fun j hj e => by have := (OwnI.lt h1 j hj).1; rw [<- z0] at this; omega)) (Nat.le_trans (Nat.le_succ _) (Nat.le_of_eq z0))
  · exact OwnE.base (O3.own h2 (fun j hj e => by have := (OwnE.lt h2 j hj).1; rw [<- z0] at z1; omega)) (Nat.le_trans (Nat.le_trans (Nat.le_succ _) (Nat.le_of_eq z0)) z1)
  · exact (((Only.grown (G0.out.trans (g1.trans g2))).mono (A' := fun _ => False) (by simp)).trans (O3.mono (fun _ _ e => .inr (Nat.le_of_eq e.symm)))).fresh (fun _ _ h => h)
def Sh.snapRec (s : Sh) : Rc := ⟨6, 0, it0, { s.ms with g := s.ms.g + 1 }, srtTh s.th, s.ob⟩
theorem lies_of {w : World} {B : Nat} {e : TypeId} {size : Nat} {v : Value} {n : Nat} {xs : List Value} (h : w.ownsRow B e size v n xs) : Lies w v n xs := by
  rcases h.2 with ⟨rfl, rfl⟩ | ⟨g, cap, cur, rfl, _⟩
  · exact ⟨none, 0, rfl, by omega⟩
  · refine ⟨_, _, rfl, fun _ => ⟨g, 0, rfl, fun j u hj => ?_⟩⟩
    have := h.cellAt j (by rw [<- h.1]; exact (List.getElem?_eq_some_iff.1 hj).1)
    rw [hj] at this
    simpa using this
theorem LiesI_of {w : World} {B : Nat} {v : Value} {is : List It} (h : OwnI B w v is) : LiesI w v is := lies_of h
theorem LiesE_of {w : World} {B : Nat} {v : Value} {es : List En} (h : OwnE B w v es) : LiesE w v es := lies_of h
theorem Dk.Ok.put {d : Dk} (ok : d.Ok) (n : Nat) (l : List UInt8) (m : Nat) (hm : m <= l.length) (hl : l.length <= 10000) : (d.put n l m).Ok := by
  unfold Dk.put
  split
  · exact ⟨hm, ok.a1, hl, ok.b1, ok.u, ok.u'⟩
  · exact ⟨ok.a0, hm, ok.b0, hl, ok.u, ok.u'⟩
theorem Dk.Ok.cut {d : Dk} (ok : d.Ok) (n : Nat) : (d.cut n).1.Ok := by
  unfold Dk.cut
  split
  · exact ok.act.put n [] 0 (Nat.le_refl _) (Nat.zero_le _)
  · exact ok.act
theorem cut_len (d : Dk) (n : Nat) (h : (d.cut n).2 = true) : ((d.cut n).1.file n).length = 0 := by
  unfold Dk.cut at *
  split
  · unfold Dk.put Dk.file
    by_cases h0 : n = 0 <;> simp [h0]
  · rename_i hh
    rw [if_neg hh] at h
    cases h
theorem snap_last (b bd : Nat) (mv ov : Value) (s : Sh) (w : World) (h : At w b (s.cells bd mv ov)) (hg : s.ms.g = 65535) :
    Calls Tryz.prog 68 #[.pointer (some ⟨b, 0, none⟩)] w fun e w' => e = .returned (.int .i64 5) /\ w' = w := by
  have c9 := h.c 9 _ rfl
  rw [hg] at c9
  clear h
  go_enter Tryz.func68, Tryz.ntmps68
  go_wp2
  go_ret
  exact ⟨rfl, rfl⟩
theorem snap_full (B b bd bm : Nat) (ov : Value) (s : Sh) (w : World) (h : SU w B b s bd bm ov) (hl : s.th.length <= 1000) (hlo : s.ob.length <= 1000) (hct : s.ct < 2) (hg0 : 0 <= s.ms.g) (hg1 : s.ms.g < 65535) (hm : mayB s.snapRec = true) (wf : WfR s.snapRec) (hc : s.cJ < ((frm s.snapRec).length : Int))  :
    Calls Tryz.prog 68 #[.pointer (some ⟨b, 0, none⟩)] w fun e w' => e = .returned (.int .i64 5) /\ w.grownBy w' none := by
  have H := Hid.mk' h
  have hfl : (frm s.snapRec).length <= 1200 := by have := (enc_len s.snapRec hm).2; unfold frm; rw [List.length_append]; simp [n2]; omega
  have hbl := h.hs.at_.lt
  have hdl := h.dk.lt
  have hsf := run_store_float
  have c3 := h.hs.at_.c 3 _ rfl
  have c4 := h.hs.at_.c 4 _ rfl
  have c6 := h.hs.at_.c 6 _ rfl
  have c9 := h.hs.at_.c 9 _ rfl
  have zl := S_size (frm s.snapRec)
  have BA := Hid.mk' (base_any B b bd bm ov s w h.hs hl hlo)
  have nd := Hid.mk' h.hs.mp.nd
  have FRM : Hid (∀ (vi vo : Value) (W : World), LiesI W vi (srtTh s.th) -> LiesE W vo s.ob -> Calls Tryz.prog 122 #[rv 6 0 it0 { s.ms with g := s.ms.g + 1 } vi vo] W fun e w' => e = .returned (.string (S (frm s.snapRec))) /\ W.grownBy w' none) := Hid.mk' fun vi vo W h1 h2 => framed_yes s.snapRec vi vo W h1 h2 hm wf
  have oct : 1 - s.ct < 2 := by omega
  have ect : (1 : Int) - (s.ct : Int) = ((1 - s.ct : Nat) : Int) := by omega
  have hc' := decide_eq_true hc
  clear h hm wf
  generalize hfr : frm s.snapRec = l at *
  have hgn : ¬ s.ms.g = 65535 := by omega
  go_enter Tryz.func68, Tryz.ntmps68
  go_wp2_with fail
  refine Calls.mono BA.out ?_
  rintro e w1 ⟨vi, vo, ss, rfl, hp, hs, o1, o2, g1⟩
  obtain rfl := srt_is hs hp nd.out
  obtain ⟨ai, ci, rfl⟩ := slice_len o1
  obtain ⟨ao, co, rfl⟩ := slice_len o2
  have k3 := (H.out.grown g1).hs.at_.c 3 _ rfl
  have k4 := (H.out.grown g1).hs.at_.c 4 _ rfl
  have k6 := (H.out.grown g1).hs.at_.c 6 _ rfl
  have z1 := g1.size
  have hne : b ≠ w1.heap.size := by omega
  have hne2 : bd ≠ w1.heap.size := by omega
  have G2 := Hid.mk' (World.grownBy_alloc w1 (.cells #[.int .i64 6, .int .i64 0, .int .i64 0, .int .i64 0, .float .f32 0, .float .f32 0, .int .i64 (s.ms.g + 1), .int .i64 s.ms.m, .int .i64 s.ms.s, .int .i64 s.ms.a, .int .i64 s.ms.n, .slice ai (srtTh s.th).length ci, .slice ao s.ob.length co] 139) none)
  have li := Hid.mk' (LiesI_of (((Only.grown G2.out).own o1 (by simp))))
  have lo := Hid.mk' (LiesE_of (((Only.grown G2.out).own o2 (by simp))))
  have A1 := Hid.mk' (At.new w1 [.int .i64 6, .int .i64 0, .int .i64 0, .int .i64 0, .float .f32 0, .float .f32 0, .int .i64 (s.ms.g + 1), .int .i64 s.ms.m, .int .i64 s.ms.s, .int .i64 s.ms.a, .int .i64 s.ms.n, .slice ai (srtTh s.th).length ci, .slice ao s.ob.length co] 139)
  unfold rv it0 at *
  go_wp2_with fail
  refine Calls.mono (FRM.out _ _ _ li.out lo.out) ?_
  rintro e w2 ⟨rfl, g2⟩
  have G := Hid.mk' (g1.trans (G2.out.trans g2))
  have H2 := Hid.mk' (H.out.grown G.out)
  have A2 := Hid.mk' (A1.out.grown g2)
  have m3 := H2.out.hs.at_.c 3 _ rfl
  have m4 := H2.out.hs.at_.c 4 _ rfl
  have m6 := H2.out.hs.at_.c 6 _ rfl
  clear o1 o2 hp hs
  go_wp2
  go_ret
  exact ⟨rfl, G.out⟩
theorem snap_cut (B b bd bm : Nat) (ov : Value) (s : Sh) (w : World) (h : SU w B b s bd bm ov) (hl : s.th.length <= 1000) (hlo : s.ob.length <= 1000) (hct : s.ct < 2) (hg0 : 0 <= s.ms.g) (hg1 : s.ms.g < 65535) (hm : mayB s.snapRec = true) (wf : WfR s.snapRec) (hc : ¬ s.cJ < ((frm s.snapRec).length : Int)) (h1 : (s.dk.cut (1 - s.ct)).2 = false) :
    Calls Tryz.prog 68 #[.pointer (some ⟨b, 0, none⟩)] w fun e w' => e = .returned (.int .i64 3) /\ At w' b (s.down.cells bd (.map none) (.slice none 0 0)) /\ At w' bd (s.dk.cut (1 - s.ct)).1.cells /\ Only w w' (fun j => j = b ∨ j = bd) := by
  have H := Hid.mk' h
  have hfl : (frm s.snapRec).length <= 1200 := by have := (enc_len s.snapRec hm).2; unfold frm; rw [List.length_append]; simp [n2]; omega
  have hbl := h.hs.at_.lt
  have hdl := h.dk.lt
  have hsf := run_store_float
  have c3 := h.hs.at_.c 3 _ rfl
  have c4 := h.hs.at_.c 4 _ rfl
  have c6 := h.hs.at_.c 6 _ rfl
  have c9 := h.hs.at_.c 9 _ rfl
  have zl := S_size (frm s.snapRec)
  have BA := Hid.mk' (base_any B b bd bm ov s w h.hs hl hlo)
  have nd := Hid.mk' h.hs.mp.nd
  have FRM : Hid (∀ (vi vo : Value) (W : World), LiesI W vi (srtTh s.th) -> LiesE W vo s.ob -> Calls Tryz.prog 122 #[rv 6 0 it0 { s.ms with g := s.ms.g + 1 } vi vo] W fun e w' => e = .returned (.string (S (frm s.snapRec))) /\ W.grownBy w' none) := Hid.mk' fun vi vo W h1 h2 => framed_yes s.snapRec vi vo W h1 h2 hm wf
  have oct : 1 - s.ct < 2 := by omega
  have ect : (1 : Int) - (s.ct : Int) = ((1 - s.ct : Nat) : Int) := by omega
  have CUT : Hid (∀ W : World, At W bd s.dk.cells -> Calls Tryz.prog 123 #[.pointer (some ⟨bd, 0, none⟩), .int .i64 (1 - s.ct : Nat)] W fun e w' => e = .returned (.bool false) /\ At w' bd (s.dk.cut (1 - s.ct)).1.cells /\ Only W w' (fun j => j = bd)) := Hid.mk' fun W hW => by
    have := dkCut_any bd s.dk (1 - s.ct) W hW h.ok oct
    rw [h1] at this
    exact this
  have hc' := decide_eq_false hc
  clear h hm wf
  generalize hfr : frm s.snapRec = l at *
  have hgn : ¬ s.ms.g = 65535 := by omega
  go_enter Tryz.func68, Tryz.ntmps68
  go_wp2_with fail
  refine Calls.mono BA.out ?_
  rintro e w1 ⟨vi, vo, ss, rfl, hp, hs, o1, o2, g1⟩
  obtain rfl := srt_is hs hp nd.out
  obtain ⟨ai, ci, rfl⟩ := slice_len o1
  obtain ⟨ao, co, rfl⟩ := slice_len o2
  have k3 := (H.out.grown g1).hs.at_.c 3 _ rfl
  have k4 := (H.out.grown g1).hs.at_.c 4 _ rfl
  have k6 := (H.out.grown g1).hs.at_.c 6 _ rfl
  have z1 := g1.size
  have hne : b ≠ w1.heap.size := by omega
  have hne2 : bd ≠ w1.heap.size := by omega
  have G2 := Hid.mk' (World.grownBy_alloc w1 (.cells #[.int .i64 6, .int .i64 0, .int .i64 0, .int .i64 0, .float .f32 0, .float .f32 0, .int .i64 (s.ms.g + 1), .int .i64 s.ms.m, .int .i64 s.ms.s, .int .i64 s.ms.a, .int .i64 s.ms.n, .slice ai (srtTh s.th).length ci, .slice ao s.ob.length co] 139) none)
  have li := Hid.mk' (LiesI_of (((Only.grown G2.out).own o1 (by simp))))
  have lo := Hid.mk' (LiesE_of (((Only.grown G2.out).own o2 (by simp))))
  have A1 := Hid.mk' (At.new w1 [.int .i64 6, .int .i64 0, .int .i64 0, .int .i64 0, .float .f32 0, .float .f32 0, .int .i64 (s.ms.g + 1), .int .i64 s.ms.m, .int .i64 s.ms.s, .int .i64 s.ms.a, .int .i64 s.ms.n, .slice ai (srtTh s.th).length ci, .slice ao s.ob.length co] 139)
  unfold rv it0 at *
  go_wp2_with fail
  refine Calls.mono (FRM.out _ _ _ li.out lo.out) ?_
  rintro e w2 ⟨rfl, g2⟩
  have G := Hid.mk' (g1.trans (G2.out.trans g2))
  have H2 := Hid.mk' (H.out.grown G.out)
  have A2 := Hid.mk' (A1.out.grown g2)
  have m3 := H2.out.hs.at_.c 3 _ rfl
  have m4 := H2.out.hs.at_.c 4 _ rfl
  have m6 := H2.out.hs.at_.c 6 _ rfl
  clear o1 o2 hp hs
  go_wp2_with fail
  refine Calls.mono (CUT.out _ H2.out.dk) ?_
  rintro e w5 ⟨rfl, p5, o5⟩
  have Q5 := Hid.mk' (H2.out.hs.disk o5 H.out.d1 H.out.d2 H.out.d3)
  have d4 := Q5.out.at_.c 4 _ rfl
  go_wp2_with fail
  refine Calls.mono (shFall_any b s bd _ _ w5 Q5.out.at_) ?_
  rintro e w9 ⟨rfl, h9, o9⟩
  go_wp2
  go_ret
  refine ⟨rfl, h9, p5.only o9 H.out.d1, ?_⟩
  exact ((((Only.grown G.out).mono (by simp))).trans (o5.mono (fun _ _ e => .inl (.inr e)))).trans (o9.mono (fun _ _ e => .inl (.inl e)))
theorem snap_app (B b bd bm : Nat) (ov : Value) (s : Sh) (w : World) (h : SU w B b s bd bm ov) (hl : s.th.length <= 1000) (hlo : s.ob.length <= 1000) (hct : s.ct < 2) (hg0 : 0 <= s.ms.g) (hg1 : s.ms.g < 65535) (hm : mayB s.snapRec = true) (wf : WfR s.snapRec) (hc : ¬ s.cJ < ((frm s.snapRec).length : Int)) (h1 : (s.dk.cut (1 - s.ct)).2 = true) (h2 : ((s.dk.cut (1 - s.ct)).1.append (1 - s.ct) (frm s.snapRec)).2 = false) :
    Calls Tryz.prog 68 #[.pointer (some ⟨b, 0, none⟩)] w fun e w' => e = .returned (.int .i64 3) /\ At w' b (s.down.cells bd (.map none) (.slice none 0 0)) /\ At w' bd ((s.dk.cut (1 - s.ct)).1.append (1 - s.ct) (frm s.snapRec)).1.cells /\ Only w w' (fun j => j = b ∨ j = bd) := by
  have H := Hid.mk' h
  have hfl : (frm s.snapRec).length <= 1200 := by have := (enc_len s.snapRec hm).2; unfold frm; rw [List.length_append]; simp [n2]; omega
  have hbl := h.hs.at_.lt
  have hdl := h.dk.lt
  have hsf := run_store_float
  have c3 := h.hs.at_.c 3 _ rfl
  have c4 := h.hs.at_.c 4 _ rfl
  have c6 := h.hs.at_.c 6 _ rfl
  have c9 := h.hs.at_.c 9 _ rfl
  have zl := S_size (frm s.snapRec)
  have BA := Hid.mk' (base_any B b bd bm ov s w h.hs hl hlo)
  have nd := Hid.mk' h.hs.mp.nd
  have FRM : Hid (∀ (vi vo : Value) (W : World), LiesI W vi (srtTh s.th) -> LiesE W vo s.ob -> Calls Tryz.prog 122 #[rv 6 0 it0 { s.ms with g := s.ms.g + 1 } vi vo] W fun e w' => e = .returned (.string (S (frm s.snapRec))) /\ W.grownBy w' none) := Hid.mk' fun vi vo W h1 h2 => framed_yes s.snapRec vi vo W h1 h2 hm wf
  have oct : 1 - s.ct < 2 := by omega
  have ect : (1 : Int) - (s.ct : Int) = ((1 - s.ct : Nat) : Int) := by omega
  have CUT : Hid (∀ W : World, At W bd s.dk.cells -> Calls Tryz.prog 123 #[.pointer (some ⟨bd, 0, none⟩), .int .i64 (1 - s.ct : Nat)] W fun e w' => e = .returned (.bool true) /\ At w' bd (s.dk.cut (1 - s.ct)).1.cells /\ Only W w' (fun j => j = bd)) := Hid.mk' fun W hW => by
    have := dkCut_any bd s.dk (1 - s.ct) W hW h.ok oct
    rw [h1] at this
    exact this
  have ok1 : (s.dk.cut (1 - s.ct)).1.Ok := h.ok.cut _
  have ln1 : ((s.dk.cut (1 - s.ct)).1.file (1 - s.ct)).length = 0 := cut_len _ _ h1
  have APP : Hid (∀ W : World, At W bd (s.dk.cut (1 - s.ct)).1.cells -> Calls Tryz.prog 124 #[.pointer (some ⟨bd, 0, none⟩), .int .i64 (1 - s.ct : Nat), .string (S (frm s.snapRec))] W fun e w' => e = .returned (.bool false) /\ At w' bd ((s.dk.cut (1 - s.ct)).1.append (1 - s.ct) (frm s.snapRec)).1.cells /\ Only W w' (fun j => j = bd)) := Hid.mk' fun W hW => by
    have := dkAppend_any bd (s.dk.cut (1 - s.ct)).1 (1 - s.ct) (frm s.snapRec) W hW ok1 oct (by omega)
    rw [h2] at this
    exact this
  clear ok1 ln1
  have hc' := decide_eq_false hc
  clear h hm wf
  generalize hfr : frm s.snapRec = l at *
  have hgn : ¬ s.ms.g = 65535 := by omega
  go_enter Tryz.func68, Tryz.ntmps68
  go_wp2_with fail
  refine Calls.mono BA.out ?_
  rintro e w1 ⟨vi, vo, ss, rfl, hp, hs, o1, o2, g1⟩
  obtain rfl := srt_is hs hp nd.out
  obtain ⟨ai, ci, rfl⟩ := slice_len o1
  obtain ⟨ao, co, rfl⟩ := slice_len o2
  have k3 := (H.out.grown g1).hs.at_.c 3 _ rfl
  have k4 := (H.out.grown g1).hs.at_.c 4 _ rfl
  have k6 := (H.out.grown g1).hs.at_.c 6 _ rfl
  have z1 := g1.size
  have hne : b ≠ w1.heap.size := by omega
  have hne2 : bd ≠ w1.heap.size := by omega
  have G2 := Hid.mk' (World.grownBy_alloc w1 (.cells #[.int .i64 6, .int .i64 0, .int .i64 0, .int .i64 0, .float .f32 0, .float .f32 0, .int .i64 (s.ms.g + 1), .int .i64 s.ms.m, .int .i64 s.ms.s, .int .i64 s.ms.a, .int .i64 s.ms.n, .slice ai (srtTh s.th).length ci, .slice ao s.ob.length co] 139) none)
  have li := Hid.mk' (LiesI_of (((Only.grown G2.out).own o1 (by simp))))
  have lo := Hid.mk' (LiesE_of (((Only.grown G2.out).own o2 (by simp))))
  have A1 := Hid.mk' (At.new w1 [.int .i64 6, .int .i64 0, .int .i64 0, .int .i64 0, .float .f32 0, .float .f32 0, .int .i64 (s.ms.g + 1), .int .i64 s.ms.m, .int .i64 s.ms.s, .int .i64 s.ms.a, .int .i64 s.ms.n, .slice ai (srtTh s.th).length ci, .slice ao s.ob.length co] 139)
  unfold rv it0 at *
  go_wp2_with fail
  refine Calls.mono (FRM.out _ _ _ li.out lo.out) ?_
  rintro e w2 ⟨rfl, g2⟩
  have G := Hid.mk' (g1.trans (G2.out.trans g2))
  have H2 := Hid.mk' (H.out.grown G.out)
  have A2 := Hid.mk' (A1.out.grown g2)
  have m3 := H2.out.hs.at_.c 3 _ rfl
  have m4 := H2.out.hs.at_.c 4 _ rfl
  have m6 := H2.out.hs.at_.c 6 _ rfl
  clear o1 o2 hp hs
  go_wp2_with fail
  refine Calls.mono (CUT.out _ H2.out.dk) ?_
  rintro e w5 ⟨rfl, p5, o5⟩
  have Q5 := Hid.mk' (H2.out.hs.disk o5 H.out.d1 H.out.d2 H.out.d3)
  have d4 := Q5.out.at_.c 4 _ rfl
  go_wp2_with fail
  refine Calls.mono (APP.out _ p5) ?_
  rintro e w6 ⟨rfl, p6, o6⟩
  have Q6 := Hid.mk' (Q5.out.disk o6 H.out.d1 H.out.d2 H.out.d3)
  have e4 := Q6.out.at_.c 4 _ rfl
  go_wp2_with fail
  refine Calls.mono (shFall_any b s bd _ _ w6 Q6.out.at_) ?_
  rintro e w9 ⟨rfl, h9, o9⟩
  go_wp2
  go_ret
  refine ⟨rfl, h9, p6.only o9 H.out.d1, ?_⟩
  exact (((((Only.grown G.out).mono (by simp))).trans (o5.mono (fun _ _ e => .inl (.inr e)))).trans (o6.mono (fun _ _ e => .inl (.inr e)))).trans (o9.mono (fun _ _ e => .inl (.inl e)))
theorem snap_syn (B b bd bm : Nat) (ov : Value) (s : Sh) (w : World) (h : SU w B b s bd bm ov) (hl : s.th.length <= 1000) (hlo : s.ob.length <= 1000) (hct : s.ct < 2) (hg0 : 0 <= s.ms.g) (hg1 : s.ms.g < 65535) (hm : mayB s.snapRec = true) (wf : WfR s.snapRec) (hc : ¬ s.cJ < ((frm s.snapRec).length : Int)) (h1 : (s.dk.cut (1 - s.ct)).2 = true) (h2 : ((s.dk.cut (1 - s.ct)).1.append (1 - s.ct) (frm s.snapRec)).2 = true) (h3 : (((s.dk.cut (1 - s.ct)).1.append (1 - s.ct) (frm s.snapRec)).1.sync (1 - s.ct)).2 = false) :
    Calls Tryz.prog 68 #[.pointer (some ⟨b, 0, none⟩)] w fun e w' => e = .returned (.int .i64 3) /\ At w' b (s.down.cells bd (.map none) (.slice none 0 0)) /\ At w' bd (((s.dk.cut (1 - s.ct)).1.append (1 - s.ct) (frm s.snapRec)).1.sync (1 - s.ct)).1.cells /\ Only w w' (fun j => j = b ∨ j = bd) := by
  have H := Hid.mk' h
  have hfl : (frm s.snapRec).length <= 1200 := by have := (enc_len s.snapRec hm).2; unfold frm; rw [List.length_append]; simp [n2]; omega
  have hbl := h.hs.at_.lt
  have hdl := h.dk.lt
  have hsf := run_store_float
  have c3 := h.hs.at_.c 3 _ rfl
  have c4 := h.hs.at_.c 4 _ rfl
  have c6 := h.hs.at_.c 6 _ rfl
  have c9 := h.hs.at_.c 9 _ rfl
  have zl := S_size (frm s.snapRec)
  have BA := Hid.mk' (base_any B b bd bm ov s w h.hs hl hlo)
  have nd := Hid.mk' h.hs.mp.nd
  have FRM : Hid (∀ (vi vo : Value) (W : World), LiesI W vi (srtTh s.th) -> LiesE W vo s.ob -> Calls Tryz.prog 122 #[rv 6 0 it0 { s.ms with g := s.ms.g + 1 } vi vo] W fun e w' => e = .returned (.string (S (frm s.snapRec))) /\ W.grownBy w' none) := Hid.mk' fun vi vo W h1 h2 => framed_yes s.snapRec vi vo W h1 h2 hm wf
  have oct : 1 - s.ct < 2 := by omega
  have ect : (1 : Int) - (s.ct : Int) = ((1 - s.ct : Nat) : Int) := by omega
  have CUT : Hid (∀ W : World, At W bd s.dk.cells -> Calls Tryz.prog 123 #[.pointer (some ⟨bd, 0, none⟩), .int .i64 (1 - s.ct : Nat)] W fun e w' => e = .returned (.bool true) /\ At w' bd (s.dk.cut (1 - s.ct)).1.cells /\ Only W w' (fun j => j = bd)) := Hid.mk' fun W hW => by
    have := dkCut_any bd s.dk (1 - s.ct) W hW h.ok oct
    rw [h1] at this
    exact this
  have ok1 : (s.dk.cut (1 - s.ct)).1.Ok := h.ok.cut _
  have ln1 : ((s.dk.cut (1 - s.ct)).1.file (1 - s.ct)).length = 0 := cut_len _ _ h1
  have APP : Hid (∀ W : World, At W bd (s.dk.cut (1 - s.ct)).1.cells -> Calls Tryz.prog 124 #[.pointer (some ⟨bd, 0, none⟩), .int .i64 (1 - s.ct : Nat), .string (S (frm s.snapRec))] W fun e w' => e = .returned (.bool true) /\ At w' bd ((s.dk.cut (1 - s.ct)).1.append (1 - s.ct) (frm s.snapRec)).1.cells /\ Only W w' (fun j => j = bd)) := Hid.mk' fun W hW => by
    have := dkAppend_any bd (s.dk.cut (1 - s.ct)).1 (1 - s.ct) (frm s.snapRec) W hW ok1 oct (by omega)
    rw [h2] at this
    exact this
  have ok2 : ((s.dk.cut (1 - s.ct)).1.append (1 - s.ct) (frm s.snapRec)).1.Ok := (ok1.append (1 - s.ct) (frm s.snapRec) (by omega)).act
  have SYN : Hid (∀ W : World, At W bd ((s.dk.cut (1 - s.ct)).1.append (1 - s.ct) (frm s.snapRec)).1.cells -> Calls Tryz.prog 125 #[.pointer (some ⟨bd, 0, none⟩), .int .i64 (1 - s.ct : Nat)] W fun e w' => e = .returned (.bool false) /\ At w' bd (((s.dk.cut (1 - s.ct)).1.append (1 - s.ct) (frm s.snapRec)).1.sync (1 - s.ct)).1.cells /\ Only W w' (fun j => j = bd)) := Hid.mk' fun W hW => by
    have := dkSync_any bd ((s.dk.cut (1 - s.ct)).1.append (1 - s.ct) (frm s.snapRec)).1 (1 - s.ct) W hW ok2 oct
    rw [h3] at this
    exact this
  clear ok2
  clear ok1 ln1
  have hc' := decide_eq_false hc
  clear h hm wf
  generalize hfr : frm s.snapRec = l at *
  have hgn : ¬ s.ms.g = 65535 := by omega
  go_enter Tryz.func68, Tryz.ntmps68
  go_wp2_with fail
  refine Calls.mono BA.out ?_
  rintro e w1 ⟨vi, vo, ss, rfl, hp, hs, o1, o2, g1⟩
  obtain rfl := srt_is hs hp nd.out
  obtain ⟨ai, ci, rfl⟩ := slice_len o1
  obtain ⟨ao, co, rfl⟩ := slice_len o2
  have k3 := (H.out.grown g1).hs.at_.c 3 _ rfl
  have k4 := (H.out.grown g1).hs.at_.c 4 _ rfl
  have k6 := (H.out.grown g1).hs.at_.c 6 _ rfl
  have z1 := g1.size
  have hne : b ≠ w1.heap.size := by omega
  have hne2 : bd ≠ w1.heap.size := by omega
  have G2 := Hid.mk' (World.grownBy_alloc w1 (.cells #[.int .i64 6, .int .i64 0, .int .i64 0, .int .i64 0, .float .f32 0, .float .f32 0, .int .i64 (s.ms.g + 1), .int .i64 s.ms.m, .int .i64 s.ms.s, .int .i64 s.ms.a, .int .i64 s.ms.n, .slice ai (srtTh s.th).length ci, .slice ao s.ob.length co] 139) none)
  have li := Hid.mk' (LiesI_of (((Only.grown G2.out).own o1 (by simp))))
  have lo := Hid.mk' (LiesE_of (((Only.grown G2.out).own o2 (by simp))))
  have A1 := Hid.mk' (At.new w1 [.int .i64 6, .int .i64 0, .int .i64 0, .int .i64 0, .float .f32 0, .float .f32 0, .int .i64 (s.ms.g + 1), .int .i64 s.ms.m, .int .i64 s.ms.s, .int .i64 s.ms.a, .int .i64 s.ms.n, .slice ai (srtTh s.th).length ci, .slice ao s.ob.length co] 139)
  unfold rv it0 at *
  go_wp2_with fail
  refine Calls.mono (FRM.out _ _ _ li.out lo.out) ?_
  rintro e w2 ⟨rfl, g2⟩
  have G := Hid.mk' (g1.trans (G2.out.trans g2))
  have H2 := Hid.mk' (H.out.grown G.out)
  have A2 := Hid.mk' (A1.out.grown g2)
  have m3 := H2.out.hs.at_.c 3 _ rfl
  have m4 := H2.out.hs.at_.c 4 _ rfl
  have m6 := H2.out.hs.at_.c 6 _ rfl
  clear o1 o2 hp hs
  go_wp2_with fail
  refine Calls.mono (CUT.out _ H2.out.dk) ?_
  rintro e w5 ⟨rfl, p5, o5⟩
  have Q5 := Hid.mk' (H2.out.hs.disk o5 H.out.d1 H.out.d2 H.out.d3)
  have d4 := Q5.out.at_.c 4 _ rfl
  go_wp2_with fail
  refine Calls.mono (APP.out _ p5) ?_
  rintro e w6 ⟨rfl, p6, o6⟩
  have Q6 := Hid.mk' (Q5.out.disk o6 H.out.d1 H.out.d2 H.out.d3)
  have e4 := Q6.out.at_.c 4 _ rfl
  go_wp2_with fail
  refine Calls.mono (SYN.out _ p6) ?_
  rintro e w7 ⟨rfl, p7, o7⟩
  have Q7 := Hid.mk' (Q6.out.disk o7 H.out.d1 H.out.d2 H.out.d3)
  go_wp2_with fail
  refine Calls.mono (shFall_any b s bd _ _ w7 Q7.out.at_) ?_
  rintro e w9 ⟨rfl, h9, o9⟩
  go_wp2
  go_ret
  refine ⟨rfl, h9, p7.only o9 H.out.d1, ?_⟩
  exact ((((((Only.grown G.out).mono (by simp))).trans (o5.mono (fun _ _ e => .inl (.inr e)))).trans (o6.mono (fun _ _ e => .inl (.inr e)))).trans (o7.mono (fun _ _ e => .inl (.inr e)))).trans (o9.mono (fun _ _ e => .inl (.inl e)))
theorem snap_ok (B b bd bm : Nat) (ov : Value) (s : Sh) (w : World) (h : SU w B b s bd bm ov) (hl : s.th.length <= 1000) (hlo : s.ob.length <= 1000) (hct : s.ct < 2) (hg0 : 0 <= s.ms.g) (hg1 : s.ms.g < 65535) (hm : mayB s.snapRec = true) (wf : WfR s.snapRec) (hc : ¬ s.cJ < ((frm s.snapRec).length : Int)) (h1 : (s.dk.cut (1 - s.ct)).2 = true) (h2 : ((s.dk.cut (1 - s.ct)).1.append (1 - s.ct) (frm s.snapRec)).2 = true) (h3 : (((s.dk.cut (1 - s.ct)).1.append (1 - s.ct) (frm s.snapRec)).1.sync (1 - s.ct)).2 = true) :
    Calls Tryz.prog 68 #[.pointer (some ⟨b, 0, none⟩)] w fun e w' => e = .returned (.int .i64 0) /\ HS w' B b { s with ct := 1 - s.ct, ms := { s.ms with g := s.ms.g + 1 } } bd bm ov /\ At w' bd (((s.dk.cut (1 - s.ct)).1.append (1 - s.ct) (frm s.snapRec)).1.sync (1 - s.ct)).1.cells /\ Only w w' (fun j => j = b ∨ j = bd) := by
  have H := Hid.mk' h
  have hfl : (frm s.snapRec).length <= 1200 := by have := (enc_len s.snapRec hm).2; unfold frm; rw [List.length_append]; simp [n2]; omega
  have hbl := h.hs.at_.lt
  have hdl := h.dk.lt
  have hsf := run_store_float
  have c3 := h.hs.at_.c 3 _ rfl
  have c4 := h.hs.at_.c 4 _ rfl
  have c6 := h.hs.at_.c 6 _ rfl
  have c9 := h.hs.at_.c 9 _ rfl
  have zl := S_size (frm s.snapRec)
  have BA := Hid.mk' (base_any B b bd bm ov s w h.hs hl hlo)
  have nd := Hid.mk' h.hs.mp.nd
  have FRM : Hid (∀ (vi vo : Value) (W : World), LiesI W vi (srtTh s.th) -> LiesE W vo s.ob -> Calls Tryz.prog 122 #[rv 6 0 it0 { s.ms with g := s.ms.g + 1 } vi vo] W fun e w' => e = .returned (.string (S (frm s.snapRec))) /\ W.grownBy w' none) := Hid.mk' fun vi vo W h1 h2 => framed_yes s.snapRec vi vo W h1 h2 hm wf
  have oct : 1 - s.ct < 2 := by omega
  have ect : (1 : Int) - (s.ct : Int) = ((1 - s.ct : Nat) : Int) := by omega
  have CUT : Hid (∀ W : World, At W bd s.dk.cells -> Calls Tryz.prog 123 #[.pointer (some ⟨bd, 0, none⟩), .int .i64 (1 - s.ct : Nat)] W fun e w' => e = .returned (.bool true) /\ At w' bd (s.dk.cut (1 - s.ct)).1.cells /\ Only W w' (fun j => j = bd)) := Hid.mk' fun W hW => by
    have := dkCut_any bd s.dk (1 - s.ct) W hW h.ok oct
    rw [h1] at this
    exact this
  have ok1 : (s.dk.cut (1 - s.ct)).1.Ok := h.ok.cut _
  have ln1 : ((s.dk.cut (1 - s.ct)).1.file (1 - s.ct)).length = 0 := cut_len _ _ h1
  have APP : Hid (∀ W : World, At W bd (s.dk.cut (1 - s.ct)).1.cells -> Calls Tryz.prog 124 #[.pointer (some ⟨bd, 0, none⟩), .int .i64 (1 - s.ct : Nat), .string (S (frm s.snapRec))] W fun e w' => e = .returned (.bool true) /\ At w' bd ((s.dk.cut (1 - s.ct)).1.append (1 - s.ct) (frm s.snapRec)).1.cells /\ Only W w' (fun j => j = bd)) := Hid.mk' fun W hW => by
    have := dkAppend_any bd (s.dk.cut (1 - s.ct)).1 (1 - s.ct) (frm s.snapRec) W hW ok1 oct (by omega)
    rw [h2] at this
    exact this
  have ok2 : ((s.dk.cut (1 - s.ct)).1.append (1 - s.ct) (frm s.snapRec)).1.Ok := (ok1.append (1 - s.ct) (frm s.snapRec) (by omega)).act
  have SYN : Hid (∀ W : World, At W bd ((s.dk.cut (1 - s.ct)).1.append (1 - s.ct) (frm s.snapRec)).1.cells -> Calls Tryz.prog 125 #[.pointer (some ⟨bd, 0, none⟩), .int .i64 (1 - s.ct : Nat)] W fun e w' => e = .returned (.bool true) /\ At w' bd (((s.dk.cut (1 - s.ct)).1.append (1 - s.ct) (frm s.snapRec)).1.sync (1 - s.ct)).1.cells /\ Only W w' (fun j => j = bd)) := Hid.mk' fun W hW => by
    have := dkSync_any bd ((s.dk.cut (1 - s.ct)).1.append (1 - s.ct) (frm s.snapRec)).1 (1 - s.ct) W hW ok2 oct
    rw [h3] at this
    exact this
  clear ok2
  clear ok1 ln1
  have hc' := decide_eq_false hc
  clear h hm wf
  generalize hfr : frm s.snapRec = l at *
  have hgn : ¬ s.ms.g = 65535 := by omega
  go_enter Tryz.func68, Tryz.ntmps68
  go_wp2_with fail
  refine Calls.mono BA.out ?_
  rintro e w1 ⟨vi, vo, ss, rfl, hp, hs, o1, o2, g1⟩
  obtain rfl := srt_is hs hp nd.out
  obtain ⟨ai, ci, rfl⟩ := slice_len o1
  obtain ⟨ao, co, rfl⟩ := slice_len o2
  have k3 := (H.out.grown g1).hs.at_.c 3 _ rfl
  have k4 := (H.out.grown g1).hs.at_.c 4 _ rfl
  have k6 := (H.out.grown g1).hs.at_.c 6 _ rfl
  have z1 := g1.size
  have hne : b ≠ w1.heap.size := by omega
  have hne2 : bd ≠ w1.heap.size := by omega
  have G2 := Hid.mk' (World.grownBy_alloc w1 (.cells #[.int .i64 6, .int .i64 0, .int .i64 0, .int .i64 0, .float .f32 0, .float .f32 0, .int .i64 (s.ms.g + 1), .int .i64 s.ms.m, .int .i64 s.ms.s, .int .i64 s.ms.a, .int .i64 s.ms.n, .slice ai (srtTh s.th).length ci, .slice ao s.ob.length co] 139) none)
  have li := Hid.mk' (LiesI_of (((Only.grown G2.out).own o1 (by simp))))
  have lo := Hid.mk' (LiesE_of (((Only.grown G2.out).own o2 (by simp))))
  have A1 := Hid.mk' (At.new w1 [.int .i64 6, .int .i64 0, .int .i64 0, .int .i64 0, .float .f32 0, .float .f32 0, .int .i64 (s.ms.g + 1), .int .i64 s.ms.m, .int .i64 s.ms.s, .int .i64 s.ms.a, .int .i64 s.ms.n, .slice ai (srtTh s.th).length ci, .slice ao s.ob.length co] 139)
  unfold rv it0 at *
  go_wp2_with fail
  refine Calls.mono (FRM.out _ _ _ li.out lo.out) ?_
  rintro e w2 ⟨rfl, g2⟩
  have G := Hid.mk' (g1.trans (G2.out.trans g2))
  have H2 := Hid.mk' (H.out.grown G.out)
  have A2 := Hid.mk' (A1.out.grown g2)
  have m3 := H2.out.hs.at_.c 3 _ rfl
  have m4 := H2.out.hs.at_.c 4 _ rfl
  have m6 := H2.out.hs.at_.c 6 _ rfl
  clear o1 o2 hp hs
  go_wp2_with fail
  refine Calls.mono (CUT.out _ H2.out.dk) ?_
  rintro e w5 ⟨rfl, p5, o5⟩
  have Q5 := Hid.mk' (H2.out.hs.disk o5 H.out.d1 H.out.d2 H.out.d3)
  have d4 := Q5.out.at_.c 4 _ rfl
  go_wp2_with fail
  refine Calls.mono (APP.out _ p5) ?_
  rintro e w6 ⟨rfl, p6, o6⟩
  have Q6 := Hid.mk' (Q5.out.disk o6 H.out.d1 H.out.d2 H.out.d3)
  have e4 := Q6.out.at_.c 4 _ rfl
  go_wp2_with fail
  refine Calls.mono (SYN.out _ p6) ?_
  rintro e w7 ⟨rfl, p7, o7⟩
  have Q7 := Hid.mk' (Q6.out.disk o7 H.out.d1 H.out.d2 H.out.d3)
  have A7 := (((A2.out.only o5 (fun e => hne2 e.symm)).only o6 (fun e => hne2 e.symm)).only o7 (fun e => hne2 e.symm))
  have a6 := A7.c 6 _ rfl
  have a7 := A7.c 7 _ rfl
  have a8 := A7.c 8 _ rfl
  have a9 := A7.c 9 _ rfl
  have a10 := A7.c 10 _ rfl
  have n6 := Q7.out.at_.c 6 _ rfl
  have f6 := Q7.out.at_.f 6
  have n9 := Q7.out.at_.c 9 _ rfl
  have f9 := Q7.out.at_.f 9
  have n10 := Q7.out.at_.c 10 _ rfl
  have f10 := Q7.out.at_.f 10
  have n11 := Q7.out.at_.c 11 _ rfl
  have f11 := Q7.out.at_.f 11
  have n12 := Q7.out.at_.c 12 _ rfl
  have f12 := Q7.out.at_.f 12
  have n13 := Q7.out.at_.c 13 _ rfl
  have f13 := Q7.out.at_.f 13
  go_wp2
  go_ret
  have A8 := ((((((Q7.out.at_.put 6 (.int .i64 (1 - s.ct : Nat)) (by simp [Sh.cells])).put 9 (.int .i64 (s.ms.g + 1)) (by simp [Sh.cells])).put 10 (.int .i64 s.ms.m) (by simp [Sh.cells])).put 11 (.int .i64 s.ms.s) (by simp [Sh.cells])).put 12 (.int .i64 s.ms.a) (by simp [Sh.cells])).put 13 (.int .i64 s.ms.n) (by simp [Sh.cells]))
  have O8 := ((((((Only.set w7 b 6 (.int .i64 (1 - s.ct : Nat))).trans ((Only.set _ b 9 (.int .i64 (s.ms.g + 1))).mono (fun _ _ e => .inl e))).trans ((Only.set _ b 10 (.int .i64 s.ms.m)).mono (fun _ _ e => .inl e))).trans ((Only.set _ b 11 (.int .i64 s.ms.s)).mono (fun _ _ e => .inl e))).trans ((Only.set _ b 12 (.int .i64 s.ms.a)).mono (fun _ _ e => .inl e))).trans ((Only.set _ b 13 (.int .i64 s.ms.n)).mono (fun _ _ e => .inl e)))
  refine ⟨rfl, ⟨A8, Q7.out.mp.only O8 Q7.out.n2, O8.own Q7.out.ob (fun j hj e => Q7.out.n1 (by rw [<- e]; exact hj)), Q7.out.n1, Q7.out.n2, Q7.out.n3, Nat.le_trans Q7.out.hB O8.size⟩, p7.only O8 H.out.d1, ?_⟩
  exact ((((((Only.grown G.out).mono (by simp))).trans (o5.mono (fun _ _ e => .inl (.inr e)))).trans (o6.mono (fun _ _ e => .inl (.inr e)))).trans (o7.mono (fun _ _ e => .inl (.inr e)))).trans (O8.mono (fun _ _ e => .inl (.inl e)))
def Sh.doTick (s : Sh) : Sh := (srtTh s.th).foldl Sh.driftOne s
def Sh.doR (s : Sh) (r : Rc) : Sh :=
  if r.kind = 6 then s.doBase r.mks r.items r.outs else if r.kind = 1 then s.doMint r.it else if r.kind = 2 then s.doDestroy r.it else if r.kind = 3 then s.doTick else if r.kind = 4 then s.doArrive r.seq r.it else s
structure DoOk (s : Sh) (r : Rc) : Prop where
  kind : r.kind = 1 ∨ r.kind = 2 ∨ r.kind = 3 ∨ r.kind = 4
  ids : i64B r.it.sh /\ i64B r.it.nu
  tick : r.kind = 3 -> DrInv s /\ s.th.length <= 1000 /\ ∀ x ∈ s.th, nearB x.pl = true /\ nearB x.sp = true
theorem do_any (B b bd bm : Nat) (ov : Value) (s : Sh) (r : Rc) (ai ao : Option Addr) (ni ci no co : Nat) (w : World) (h : HS w B b s bd bm ov) (ok : DoOk s r) :
    Calls Tryz.prog 89 #[.pointer (some ⟨b, 0, none⟩), rv r.kind r.seq r.it r.mks (.slice ai ni ci) (.slice ao no co)] w fun e w' => e = .returned (.tuple #[]) /\ ∃ ov', HS w' B b (s.doR r) bd bm ov' /\ Only w w' (HS.foot b bm ov) /\ (∀ j, ov'.ownBlock = some j -> ov.ownBlock = some j ∨ w.heap.size <= j) := by
  obtain ⟨K, q, i, m, is, os⟩ := r
  rcases ok.kind with e | e | e | e <;> simp only at e <;> subst e
  · refine (doMint_any B b bd bm ov s q i m ai ao ni ci no co w h ok.ids.1 ok.ids.2).mono ?_
    rintro e w' ⟨he, h1, h2⟩
    exact ⟨he, ov, by simpa [Sh.doR] using h1, h2, fun j hj => .inl hj⟩
  · refine (doDestroy_any B b bd bm ov s q i m ai ao ni ci no co w h ok.ids.1 ok.ids.2).mono ?_
    rintro e w' ⟨he, h1, h2⟩
    exact ⟨he, ov, by simpa [Sh.doR] using h1, h2, fun j hj => .inl hj⟩
  · obtain ⟨t1, t2, t3⟩ := ok.tick rfl
    refine (doTick_any B b bd bm ov s q i m ai ao ni ci no co w h t1 t2 t3).mono ?_
    rintro e w' ⟨he, ss, ov', hp, hs, h1, h2, h3⟩
    obtain rfl := srt_is hs hp h.mp.nd
    exact ⟨he, ov', by simpa [Sh.doR, Sh.doTick] using h1, h2, h3⟩
  · refine (doArrive_any B b bd bm ov s q i m ai ao ni ci no co w h ok.ids.1 ok.ids.2).mono ?_
    rintro e w' ⟨he, h1, h2⟩
    exact ⟨he, ov, by simpa [Sh.doR] using h1, h2, fun j hj => .inl hj⟩
structure PSu (w : World) (b : Nat) (s : Sh) (F : Nat -> Prop) (bd B bm : Nat) (ov : Value) : Prop where
  su : SU w B b s bd bm ov
  f1 : F b
  f2 : F bd
  f3 : F bm
  f4 : ∀ j, ov.ownBlock = some j -> F j
structure PSd (w : World) (b : Nat) (s : Sh) (F : Nat -> Prop) (bd : Nat) : Prop where
  at_ : At w b (s.cells bd (.map none) (.slice none 0 0))
  dk : At w bd s.dk.cells
  ok : s.dk.Ok
  d1 : bd ≠ b
  f1 : F b
  f2 : F bd
  e1 : s.th = []
  e2 : s.ob = []
  e3 : s.ms = mk0
def PS (w : World) (b : Nat) (s : Sh) (F : Nat -> Prop) : Prop :=
  ∃ bd, (s.up = true /\ ∃ B bm ov, PSu w b s F bd B bm ov) ∨ (s.up = false /\ PSd w b s F bd)
def NX (w w' : World) (F : Nat -> Prop) (j : Nat) : Prop := (F j ∨ w.heap.size <= j) /\ j < w'.heap.size
theorem SU.only {w w' : World} {B b bd bm : Nat} {ov : Value} {s : Sh} {A : Nat -> Prop} (h : SU w B b s bd bm ov) (o : Only w w' A) (h1 : ¬ A b) (h2 : ¬ A bd) (h3 : ¬ A bm) (h4 : ∀ j, ov.ownBlock = some j -> ¬ A j) : SU w' B b s bd bm ov :=
  ⟨⟨h.hs.at_.only o h1, h.hs.mp.only o h3, o.own h.hs.ob h4, h.hs.n1, h.hs.n2, h.hs.n3, Nat.le_trans h.hs.hB o.size⟩, h.dk.only o h2, h.ok, h.d1, h.d2, h.d3⟩
theorem PS.only {w w' : World} {b : Nat} {s : Sh} {F A : Nat -> Prop} (h : PS w b s F) (o : Only w w' A) (hA : ∀ j, F j -> ¬ A j) : PS w' b s F := by
  obtain ⟨bd, ⟨hu, B, bm, ov, p⟩ | ⟨hu, p⟩⟩ := h
  · exact ⟨bd, .inl ⟨hu, B, bm, ov, p.su.only o (hA _ p.f1) (hA _ p.f2) (hA _ p.f3) (fun j hj => hA j (p.f4 j hj)), p.f1, p.f2, p.f3, p.f4⟩⟩
  · exact ⟨bd, .inr ⟨hu, p.at_.only o (hA _ p.f1), p.dk.only o (hA _ p.f2), p.ok, p.d1, p.f1, p.f2, p.e1, p.e2, p.e3⟩⟩
theorem PS.mono {w : World} {b : Nat} {s : Sh} {F F' : Nat -> Prop} (h : PS w b s F) (hF : ∀ j, j < w.heap.size -> F j -> F' j) : PS w b s F' := by
  obtain ⟨bd, ⟨hu, B, bm, ov, p⟩ | ⟨hu, p⟩⟩ := h
  · refine ⟨bd, .inl ⟨hu, B, bm, ov, p.su, hF _ p.su.hs.at_.lt p.f1, hF _ p.su.dk.lt p.f2, hF _ p.su.hs.mp.lt p.f3, fun j hj => hF j (p.su.hs.ob.lt j hj).2 (p.f4 j hj)⟩⟩
  · exact ⟨bd, .inr ⟨hu, p.at_, p.dk, p.ok, p.d1, hF _ p.at_.lt p.f1, hF _ p.dk.lt p.f2, p.e1, p.e2, p.e3⟩⟩
theorem PS.grown {w w' : World} {b : Nat} {s : Sh} {F : Nat -> Prop} (h : PS w b s F) (g : w.grownBy w' none) : PS w' b s (NX w w' F) := by
  have h' := h.mono (F' := fun j => F j /\ j < w.heap.size) (fun j hj hF => ⟨hF, hj⟩)
  exact (h'.only ((Only.grown g).mono (A' := fun _ => False) (by simp)) (fun _ _ h => h)).mono (fun j _ hj => ⟨.inl hj.1, Nat.lt_of_lt_of_le hj.2 g.size⟩)
def Sh.on (s : Sh) (d : Dk) : Sh := { s with dk := d }
def Sh.jrn (s : Sh) (r : Rc) : Int × Sh :=
  if s.cJ < ((s.dk.file s.ct).length : Int) + ((frm r).length : Int) then (5, s)
  else if (s.dk.append s.ct (frm r)).2 = false then (3, s.down.on (s.dk.append s.ct (frm r)).1)
  else if ((s.dk.append s.ct (frm r)).1.sync s.ct).2 = false then (3, s.down.on ((s.dk.append s.ct (frm r)).1.sync s.ct).1)
  else (0, (s.on ((s.dk.append s.ct (frm r)).1.sync s.ct).1).doR r)
theorem Dk.Ok.sync {d : Dk} (ok : d.Ok) (n : Nat) : (d.sync n).1.Ok := by
  unfold Dk.sync
  split
  · refine ok.act.put n _ _ (Nat.le_refl _) ?_
    unfold Dk.file
    split
    · exact ok.act.b0
    · exact ok.act.b1
  · exact ok.act
theorem ps_down {w w' : World} {b bd : Nat} {s : Sh} {F : Nat -> Prop} {d : Dk} (h1 : At w' b (s.down.cells bd (.map none) (.slice none 0 0))) (h2 : At w' bd d.cells) (ok : d.Ok) (ne : bd ≠ b) (f1 : F b) (f2 : F bd) : PS w' b (s.down.on d) (NX w w' F) :=
  ⟨bd, .inr ⟨rfl, h1, h2, ok, ne, ⟨.inl f1, h1.lt⟩, ⟨.inl f2, h2.lt⟩, rfl, rfl, rfl⟩⟩
theorem driftOne_up (s : Sh) (i : It) : (s.driftOne i).up = s.up /\ (s.driftOne i).dk = s.dk /\ (s.driftOne i).ct = s.ct /\ (s.driftOne i).no = s.no /\ (s.driftOne i).cI = s.cI /\ (s.driftOne i).cO = s.cO /\ (s.driftOne i).cJ = s.cJ := by
  unfold Sh.driftOne Sh.leave
  repeat' split
  all_goals exact ⟨rfl, rfl, rfl, rfl, rfl, rfl, rfl⟩
theorem drifts_up (l : List It) : ∀ s : Sh, (l.foldl Sh.driftOne s).up = s.up /\ (l.foldl Sh.driftOne s).dk = s.dk /\ (l.foldl Sh.driftOne s).ct = s.ct /\ (l.foldl Sh.driftOne s).no = s.no /\ (l.foldl Sh.driftOne s).cI = s.cI /\ (l.foldl Sh.driftOne s).cO = s.cO /\ (l.foldl Sh.driftOne s).cJ = s.cJ := by
  induction l with
  | nil => intro s; exact ⟨rfl, rfl, rfl, rfl, rfl, rfl, rfl⟩
  | cons x l ih =>
    intro s
    obtain ⟨a1, a2, a3, a4, a5, a6, a7⟩ := ih (s.driftOne x)
    obtain ⟨b1, b2, b3, b4, b5, b6, b7⟩ := driftOne_up s x
    exact ⟨a1.trans b1, a2.trans b2, a3.trans b3, a4.trans b4, a5.trans b5, a6.trans b6, a7.trans b7⟩
theorem doR_up (s : Sh) (r : Rc) : (s.doR r).up = s.up /\ (s.doR r).dk = s.dk /\ (s.doR r).ct = s.ct /\ (s.doR r).no = s.no /\ (s.doR r).cI = s.cI /\ (s.doR r).cO = s.cO /\ (s.doR r).cJ = s.cJ := by
  unfold Sh.doR
  split
  · exact ⟨rfl, rfl, rfl, rfl, rfl, rfl, rfl⟩
  split
  · exact ⟨rfl, rfl, rfl, rfl, rfl, rfl, rfl⟩
  split
  · exact ⟨rfl, rfl, rfl, rfl, rfl, rfl, rfl⟩
  split
  · exact drifts_up _ _
  split <;> exact ⟨rfl, rfl, rfl, rfl, rfl, rfl, rfl⟩
theorem driftOne_on (s : Sh) (i : It) (d : Dk) : (s.on d).driftOne i = (s.driftOne i).on d := by
  unfold Sh.driftOne Sh.leave Sh.mayLeave Sh.on
  simp only
  repeat' split
  all_goals rfl
theorem drifts_on (l : List It) (d : Dk) : ∀ s : Sh, l.foldl Sh.driftOne (s.on d) = (l.foldl Sh.driftOne s).on d := by
  induction l with
  | nil => intro s; rfl
  | cons x l ih =>
    intro s
    rw [List.foldl_cons, List.foldl_cons, driftOne_on, ih]
theorem doR_on (s : Sh) (r : Rc) (d : Dk) : (s.on d).doR r = (s.doR r).on d := by
  unfold Sh.doR
  split
  · rfl
  split
  · rfl
  split
  · rfl
  split
  · exact drifts_on _ _ _
  split <;> rfl
theorem HS.on {w : World} {B b bd bm : Nat} {ov : Value} {s : Sh} (h : HS w B b s bd bm ov) (d : Dk) : HS w B b (s.on d) bd bm ov := ⟨h.at_, h.mp, h.ob, h.n1, h.n2, h.n3, h.hB⟩
theorem ps_up {w W w' : World} {B b bd bm : Nat} {ov ov' : Value} {s s1 : Sh} {F : Nat -> Prop} {d : Dk} (hu : s1.up = true) (he : s1.dk = d) (h : HS w B b s bd bm ov) (hd1 : bd ≠ b) (hd2 : bd ≠ bm) (hd3 : ov.ownBlock ≠ some bd) (hd : At W bd d.cells) (ok : d.Ok) (hW : Only w W (fun j => j = bd)) (hbl : bd < w.heap.size) (h' : HS w' B b s1 bd bm ov') (o : Only W w' (HS.foot b bm ov)) (hv : ∀ j, ov'.ownBlock = some j -> ov.ownBlock = some j ∨ W.heap.size <= j)
    (f1 : F b) (f2 : F bd) (f3 : F bm) (f4 : ∀ j, ov.ownBlock = some j -> F j) : PS w' b s1 (NX w w' F) /\ Only w w' F := by
  have nb : ¬ HS.foot b bm ov bd := by
    rintro (e | e | e)
    · exact hd1 e
    · exact hd2 e
    · exact hd3 e
  have nv : ov'.ownBlock ≠ some bd := fun e => by
    rcases hv bd e with e | e
    · exact hd3 e
    · have := hW.size; omega
  refine ⟨⟨bd, .inl ⟨hu, B, bm, ov', ⟨h', by rw [he]; exact hd.only o nb, by rw [he]; exact ok, hd1, hd2, nv⟩, ⟨.inl f1, h'.at_.lt⟩, ⟨.inl f2, Nat.lt_of_lt_of_le hbl (Nat.le_trans hW.size o.size)⟩, ⟨.inl f3, h'.mp.lt⟩, fun j hj => ⟨?_, (h'.ob.lt j hj).2⟩⟩⟩, ?_⟩
  · rcases hv j hj with e | e
    · exact .inl (f4 j e)
    · exact .inr (Nat.le_trans hW.size e)
  · refine (hW.mono (fun k _ e => by subst e; exact f2)).trans (o.mono ?_)
    rintro k _ (e | e | e)
    · exact .inl (by subst e; exact f1)
    · exact .inl (by subst e; exact f3)
    · exact .inl (f4 k e)
theorem journal_ps (b : Nat) (s : Sh) (F : Nat -> Prop) (r : Rc) (w : World) (h : PS w b s F) (hu : s.up = true) (hr : r.items = [] /\ r.outs = []) (hm : mayB r = true) (wf : WfR r) (hct : s.ct < 2) (hcj : s.cJ <= 5000) (ok : DoOk s r) :
    Calls Tryz.prog 134 #[.pointer (some ⟨b, 0, none⟩), rv r.kind r.seq r.it r.mks (.slice none 0 0) (.slice none 0 0)] w fun e w' => e = .returned (.int .i64 (s.jrn r).1) /\ PS w' b (s.jrn r).2 (NX w w' F) /\ Only w w' F := by
  have h0 := h
  obtain ⟨bd, ⟨_, B, bm, ov, p⟩ | ⟨hu', _⟩⟩ := h
  case inr => rw [hu] at hu'; cases hu'
  unfold Sh.jrn
  split
  · rename_i hc
    refine (journal_full B b bd bm ov s r w p.su hr hm wf hct hcj hc).mono ?_
    rintro e w' ⟨he, g⟩
    exact ⟨he, h0.grown g, (Only.grown g).mono (by simp)⟩
  rename_i hc
  have hlen : (s.dk.file s.ct).length + (frm r).length <= 10000 := by omega
  have okA := p.su.ok.append s.ct (frm r) hlen
  split
  · rename_i ha
    refine (journal_down1 B b bd bm ov s r w p.su hr hm wf hct hcj hc ha).mono ?_
    rintro e w' ⟨he, h1, h2, o⟩
    exact ⟨he, ps_down h1 h2 okA.act p.su.d1 p.f1 p.f2, o.mono (fun j _ e => by rcases e with rfl | rfl; exact p.f1; exact p.f2)⟩
  rename_i ha
  have ha' : (s.dk.append s.ct (frm r)).2 = true := by simpa using ha
  split
  · rename_i hb
    refine (journal_down2 B b bd bm ov s r w p.su hr hm wf hct hcj hc ha' hb).mono ?_
    rintro e w' ⟨he, h1, h2, o⟩
    exact ⟨he, ps_down h1 h2 (Dk.Ok.sync okA.act _) p.su.d1 p.f1 p.f2, o.mono (fun j _ e => by rcases e with rfl | rfl; exact p.f1; exact p.f2)⟩
  rename_i hb
  have hb' : ((s.dk.append s.ct (frm r)).1.sync s.ct).2 = true := by simpa using hb
  refine (journal_ok B b bd bm ov s r w p.su hr hm wf hct hcj hc (fun W w' => ∃ ov', HS w' B b (s.doR r) bd bm ov' /\ Only W w' (HS.foot b bm ov) /\ (∀ j, ov'.ownBlock = some j -> ov.ownBlock = some j ∨ W.heap.size <= j)) (fun W hW => do_any B b bd bm ov s r none none 0 0 0 0 W hW ok) ha' hb').mono ?_
  rintro e w' ⟨he, W, q1, q2, q3, ov', q4, q5, q6⟩
  refine ⟨he, ?_⟩
  have up := doR_up (s.on ((s.dk.append s.ct (frm r)).1.sync s.ct).1) r
  have q4' : HS w' B b ((s.on ((s.dk.append s.ct (frm r)).1.sync s.ct).1).doR r) bd bm ov' := by
    have e1 : (s.on ((s.dk.append s.ct (frm r)).1.sync s.ct).1).doR r = (s.doR r).on ((s.dk.append s.ct (frm r)).1.sync s.ct).1 := doR_on s r _
    rw [e1]
    exact q4.on _
  exact ps_up (up.1.trans hu) up.2.1 p.su.hs p.su.d1 p.su.d2 p.su.d3 q2 (Dk.Ok.sync okA.act _) q3 p.su.dk.lt q4' q5 q6 p.f1 p.f2 p.f3 p.f4
def idE (a b e : Int) : Value := .tuple #[.agg #[.int .i64 a, .int .i64 b], .int .i64 e]
def Sh.mintRec (s : Sh) (pl sp : Nat) : Rc := ⟨1, 0, ⟨s.no, s.ms.m + 1, pl, sp⟩, mk0, [], []⟩
theorem mint_far (B b bd bm : Nat) (ov : Value) (s : Sh) (pl sp : Nat) (w : World) (h : SU w B b s bd bm ov) (hn : (nearB pl && nearB sp) = false) :
    Calls Tryz.prog 93 #[.pointer (some ⟨b, 0, none⟩), .float .f32 pl, .float .f32 sp] w fun e w' => e = .returned (idE 0 0 2) /\ w.grownBy w' none := by
  have H := Hid.mk' h
  have G0 := Hid.mk' (World.grownBy_alloc w (.cells #[.int .i64 0, .int .i64 0] 32) none)
  have H0 := Hid.mk' (h.grown (grownBy_drew G0.out))
  have A0 := Hid.mk' (At.new w [.int .i64 0, .int .i64 0] 32).drew
  clear h
  go_enter Tryz.func93, Tryz.ntmps93
  go_wp2_with fail
  refine wp_region_held_drew (S := fun w' => At w' b (s.cells bd (.map (some bm)) ov)) (by kernel_rfl) (H0.out.hs.at_) (fun hHeld => ?_)
  refine hTk 0 ?_
  simp only [lS0, lS1]
  refine hTk 1 ?_
  simp only [lS0, lS1]
  refine hCall 2 (f := 146) (args := #[.float .f32 pl, .float .f32 sp]) (by kernel_rfl) (by rfl) (by rfl) (by go_simp) ?_
  refine Calls.mono (drift_any pl sp _) ?_
  rintro e w2 ⟨rfl, rfl⟩
  refine ⟨_, rfl, hHeld, ?_⟩
  rw [hn]
  simp only [lS0, lS1]
  refine hTk 3 ?_
  simp only [lS0, lS1]
  refine hTk 4 ?_
  simp only [lS0, lS1]
  refine hSk 5 ?_
  simp only [lS0, lS1]
  refine hSk 6 ?_
  simp only [lS0, lS1]
  refine hSk 7 ?_
  simp only [lS0, lS1]
  refine hSk 8 ?_
  simp only [lS0, lS1]
  refine hSk 9 ?_
  simp only [lS0, lS1]
  refine hSk 10 ?_
  simp only [lS0, lS1]
  refine hSk 11 ?_
  simp only [lS0, lS1]
  refine hTk 12 ?_
  simp only [lS0, lS1]
  refine wpAnyH_done (by kernel_rfl) ?_ _
  go_wp2
  exact bodyPost_ret (v := idE 0 0 2) (by simp [results, Tryz.results93, idE, go_sem]) rfl ⟨rfl, grownBy_drew G0.out⟩
theorem mint_side (B b bd bm : Nat) (ov : Value) (s : Sh) (pl sp : Nat) (w : World) (h : SU w B b s bd bm ov) (hn : (nearB pl && nearB sp) = true) (hs : ¬ sideB pl = (s.no : Int)) :
    Calls Tryz.prog 93 #[.pointer (some ⟨b, 0, none⟩), .float .f32 pl, .float .f32 sp] w fun e w' => e = .returned (idE 0 0 2) /\ w.grownBy w' none := by
  have H := Hid.mk' h
  have G0 := Hid.mk' (World.grownBy_alloc w (.cells #[.int .i64 0, .int .i64 0] 32) none)
  have H0 := Hid.mk' (h.grown (grownBy_drew G0.out))
  have A0 := Hid.mk' (At.new w [.int .i64 0, .int .i64 0] 32).drew
  clear h
  go_enter Tryz.func93, Tryz.ntmps93
  go_wp2_with fail
  refine wp_region_held_drew (S := fun w' => At w' b (s.cells bd (.map (some bm)) ov)) (by kernel_rfl) (H0.out.hs.at_) (fun hHeld => ?_)
  refine hTk 0 ?_
  simp only [lS0, lS1]
  refine hTk 1 ?_
  simp only [lS0, lS1]
  refine hCall 2 (f := 146) (args := #[.float .f32 pl, .float .f32 sp]) (by kernel_rfl) (by rfl) (by rfl) (by go_simp) ?_
  refine Calls.mono (drift_any pl sp _) ?_
  rintro e w2 ⟨rfl, rfl⟩
  refine ⟨_, rfl, hHeld, ?_⟩
  rw [hn]
  simp only [lS0, lS1]
  refine hTk 3 ?_
  simp only [lS0, lS1]
  refine hTk 4 ?_
  simp only [lS0, lS1]
  refine hTk 5 ?_
  simp only [lS0, lS1]
  refine hTk 7 ?_
  simp only [lS0, lS1]
  refine hTk 8 ?_
  simp only [lS0, lS1]
  refine hTk 9 ?_
  simp only [lS0, lS1]
  refine hTy 10 rfl (by intro w hSw; have S0 := hSw.c 0 _ rfl; go_simp; try with_reducible rfl) ?_
  simp only [lS0, lS1]
  refine hCall 6 (f := 147) (args := #[.float .f32 pl]) (by kernel_rfl) (by rfl) (by rfl) (by go_simp) ?_
  refine Calls.mono (side_any pl _) ?_
  rintro e w3 ⟨rfl, rfl⟩
  refine ⟨_, rfl, hHeld, ?_⟩
  simp only [lS0, lS1]
  refine hTk 11 ?_
  simp only [lS0, lS1]
  refine hTk 12 ?_
  simp only [lS0, lS1]
  refine wpAnyH_done (by kernel_rfl) ?_ _
  go_wp2
  exact bodyPost_ret (v := idE 0 0 2) (by simp [results, Tryz.results93, idE, go_sem]) rfl ⟨rfl, grownBy_drew G0.out⟩
theorem mint_full (B b bd bm : Nat) (ov : Value) (s : Sh) (pl sp : Nat) (w : World) (h : SU w B b s bd bm ov) (hn : (nearB pl && nearB sp) = true) (hs : sideB pl = (s.no : Int)) (hf : decide (s.cI <= (s.th.length : Int)) = true) :
    Calls Tryz.prog 93 #[.pointer (some ⟨b, 0, none⟩), .float .f32 pl, .float .f32 sp] w fun e w' => e = .returned (idE 0 0 6) /\ w.grownBy w' none := by
  have H := Hid.mk' h
  have G0 := Hid.mk' (World.grownBy_alloc w (.cells #[.int .i64 0, .int .i64 0] 32) none)
  have H0 := Hid.mk' (h.grown (grownBy_drew G0.out))
  have A0 := Hid.mk' (At.new w [.int .i64 0, .int .i64 0] 32).drew
  clear h
  go_enter Tryz.func93, Tryz.ntmps93
  go_wp2_with fail
  refine wp_region_held_drew (S := fun w' => At w' b (s.cells bd (.map (some bm)) ov)) (by kernel_rfl) (H0.out.hs.at_) (fun hHeld => ?_)
  refine hTk 0 ?_
  simp only [lS0, lS1]
  refine hTk 1 ?_
  simp only [lS0, lS1]
  refine hCall 2 (f := 146) (args := #[.float .f32 pl, .float .f32 sp]) (by kernel_rfl) (by rfl) (by rfl) (by go_simp) ?_
  refine Calls.mono (drift_any pl sp _) ?_
  rintro e w2 ⟨rfl, rfl⟩
  refine ⟨_, rfl, hHeld, ?_⟩
  rw [hn]
  simp only [lS0, lS1]
  refine hTk 3 ?_
  simp only [lS0, lS1]
  refine hTk 4 ?_
  simp only [lS0, lS1]
  refine hTk 5 ?_
  simp only [lS0, lS1]
  refine hTk 7 ?_
  simp only [lS0, lS1]
  refine hTk 8 ?_
  simp only [lS0, lS1]
  refine hTk 9 ?_
  simp only [lS0, lS1]
  refine hTy 10 rfl (by intro w hSw; have S0 := hSw.c 0 _ rfl; go_simp; try with_reducible rfl) ?_
  simp only [lS0, lS1]
  refine hCall 6 (f := 147) (args := #[.float .f32 pl]) (by kernel_rfl) (by rfl) (by rfl) (by go_simp) ?_
  refine Calls.mono (side_any pl _) ?_
  rintro e w3 ⟨rfl, rfl⟩
  refine ⟨_, rfl, hHeld, ?_⟩
  rw [hs]
  simp only [lS0, lS1]
  refine hTk 11 ?_
  simp only [lS0, lS1]
  refine hTk 12 ?_
  simp only [lS0, lS1]
  refine wpAnyH_done (by kernel_rfl) ?_ _
  go_wp2_with fail
  refine Calls.mono (shFull_any B b bd bm ov s _ H0.out.hs) ?_
  rintro e w4 ⟨rfl, g4⟩
  have H4 := Hid.mk' (H0.out.grown g4)
  have A4 := Hid.mk' (A0.out.grown g4)
  have G4 := Hid.mk' ((grownBy_drew G0.out).trans g4)
  have c10 := H4.out.hs.at_.c 10 _ rfl
  have a0 := A4.out.c 0 _ rfl
  have a1 := A4.out.c 1 _ rfl
  have p0 := A4.out.f 0
  have p1 := A4.out.f 1
  rw [hf]
  have B4 := ((A4.out.put 0 (.int .i64 0) (by simp)).put 1 (.int .i64 0) (by simp))
  have b0 := B4.c 0 _ rfl
  have b1 := B4.c 1 _ rfl
  go_wp2
  exact bodyPost_ret (v := idE 0 0 6) (by simp [results, Tryz.results93, idE, go_sem, *]) rfl ⟨rfl, (((Only.grown G4.out).mono (A' := fun _ => False) (by simp)).trans ((Only.set2 w4 w.heap.size 0 1 _ _).mono (fun _ _ e => .inr (Nat.le_of_eq e.symm)))).fresh (fun _ _ h => h)⟩
theorem mint_last (B b bd bm : Nat) (ov : Value) (s : Sh) (pl sp : Nat) (w : World) (h : SU w B b s bd bm ov) (hn : (nearB pl && nearB sp) = true) (hs : sideB pl = (s.no : Int)) (hf : decide (s.cI <= (s.th.length : Int)) = false) (hl : s.ms.m = 65535) :
    Calls Tryz.prog 93 #[.pointer (some ⟨b, 0, none⟩), .float .f32 pl, .float .f32 sp] w fun e w' => e = .returned (idE 0 0 6) /\ w.grownBy w' none := by
  have H := Hid.mk' h
  have G0 := Hid.mk' (World.grownBy_alloc w (.cells #[.int .i64 0, .int .i64 0] 32) none)
  have H0 := Hid.mk' (h.grown (grownBy_drew G0.out))
  have A0 := Hid.mk' (At.new w [.int .i64 0, .int .i64 0] 32).drew
  clear h
  go_enter Tryz.func93, Tryz.ntmps93
  go_wp2_with fail
  refine wp_region_held_drew (S := fun w' => At w' b (s.cells bd (.map (some bm)) ov)) (by kernel_rfl) (H0.out.hs.at_) (fun hHeld => ?_)
  refine hTk 0 ?_
  simp only [lS0, lS1]
  refine hTk 1 ?_
  simp only [lS0, lS1]
  refine hCall 2 (f := 146) (args := #[.float .f32 pl, .float .f32 sp]) (by kernel_rfl) (by rfl) (by rfl) (by go_simp) ?_
  refine Calls.mono (drift_any pl sp _) ?_
  rintro e w2 ⟨rfl, rfl⟩
  refine ⟨_, rfl, hHeld, ?_⟩
  rw [hn]
  simp only [lS0, lS1]
  refine hTk 3 ?_
  simp only [lS0, lS1]
  refine hTk 4 ?_
  simp only [lS0, lS1]
  refine hTk 5 ?_
  simp only [lS0, lS1]
  refine hTk 7 ?_
  simp only [lS0, lS1]
  refine hTk 8 ?_
  simp only [lS0, lS1]
  refine hTk 9 ?_
  simp only [lS0, lS1]
  refine hTy 10 rfl (by intro w hSw; have S0 := hSw.c 0 _ rfl; go_simp; try with_reducible rfl) ?_
  simp only [lS0, lS1]
  refine hCall 6 (f := 147) (args := #[.float .f32 pl]) (by kernel_rfl) (by rfl) (by rfl) (by go_simp) ?_
  refine Calls.mono (side_any pl _) ?_
  rintro e w3 ⟨rfl, rfl⟩
  refine ⟨_, rfl, hHeld, ?_⟩
  rw [hs]
  simp only [lS0, lS1]
  refine hTk 11 ?_
  simp only [lS0, lS1]
  refine hTk 12 ?_
  simp only [lS0, lS1]
  refine wpAnyH_done (by kernel_rfl) ?_ _
  go_wp2_with fail
  refine Calls.mono (shFull_any B b bd bm ov s _ H0.out.hs) ?_
  rintro e w4 ⟨rfl, g4⟩
  have H4 := Hid.mk' (H0.out.grown g4)
  have A4 := Hid.mk' (A0.out.grown g4)
  have G4 := Hid.mk' ((grownBy_drew G0.out).trans g4)
  have c10 := H4.out.hs.at_.c 10 _ rfl
  have a0 := A4.out.c 0 _ rfl
  have a1 := A4.out.c 1 _ rfl
  have p0 := A4.out.f 0
  have p1 := A4.out.f 1
  rw [hf]
  rw [hl] at c10
  have B4 := ((A4.out.put 0 (.int .i64 0) (by simp)).put 1 (.int .i64 0) (by simp))
  have b0 := B4.c 0 _ rfl
  have b1 := B4.c 1 _ rfl
  go_wp2
  exact bodyPost_ret (v := idE 0 0 6) (by simp [results, Tryz.results93, idE, go_sem, *]) rfl ⟨rfl, (((Only.grown G4.out).mono (A' := fun _ => False) (by simp)).trans ((Only.set2 w4 w.heap.size 0 1 _ _).mono (fun _ _ e => .inr (Nat.le_of_eq e.symm)))).fresh (fun _ _ h => h)⟩
theorem mint_go (B b bd bm : Nat) (ov : Value) (s : Sh) (F : Nat -> Prop) (pl sp : Nat) (w : World) (h : SU w B b s bd bm ov) (hps : PS w b s F) (hn : (nearB pl && nearB sp) = true) (hs : sideB pl = (s.no : Int)) (hf : decide (s.cI <= (s.th.length : Int)) = false) (hl : s.ms.m < 65535) (hl0 : 0 <= s.ms.m)
    (hj : ∀ W, PS W b s F -> Calls Tryz.prog 134 #[.pointer (some ⟨b, 0, none⟩), rv 1 0 ⟨s.no, s.ms.m + 1, pl, sp⟩ mk0 (.slice none 0 0) (.slice none 0 0)] W fun e w' => e = .returned (.int .i64 (s.jrn (s.mintRec pl sp)).1) /\ PS w' b (s.jrn (s.mintRec pl sp)).2 (NX W w' F) /\ Only W w' F) (hF : ∀ j, F j -> j < w.heap.size) :
    Calls Tryz.prog 93 #[.pointer (some ⟨b, 0, none⟩), .float .f32 pl, .float .f32 sp] w fun e w' => e = .returned (if (s.jrn (s.mintRec pl sp)).1 = 0 then idE s.no (s.ms.m + 1) 0 else idE 0 0 (s.jrn (s.mintRec pl sp)).1) /\ PS w' b (s.jrn (s.mintRec pl sp)).2 (NX w w' F) /\ Only w w' F := by
  have H := Hid.mk' h
  have G0 := Hid.mk' (World.grownBy_alloc w (.cells #[.int .i64 0, .int .i64 0] 32) none)
  have H0 := Hid.mk' (h.grown (grownBy_drew G0.out))
  have A0 := Hid.mk' (At.new w [.int .i64 0, .int .i64 0] 32).drew
  have JR := Hid.mk' hj
  have PP := Hid.mk' hps
  have HF := Hid.mk' hF
  clear h hj hps hF
  go_enter Tryz.func93, Tryz.ntmps93
  go_wp2_with fail
  refine wp_region_held_drew (S := fun w' => At w' b (s.cells bd (.map (some bm)) ov)) (by kernel_rfl) (H0.out.hs.at_) (fun hHeld => ?_)
  refine hTk 0 ?_
  simp only [lS0, lS1]
  refine hTk 1 ?_
  simp only [lS0, lS1]
  refine hCall 2 (f := 146) (args := #[.float .f32 pl, .float .f32 sp]) (by kernel_rfl) (by rfl) (by rfl) (by go_simp) ?_
  refine Calls.mono (drift_any pl sp _) ?_
  rintro e w2 ⟨rfl, rfl⟩
  refine ⟨_, rfl, hHeld, ?_⟩
  rw [hn]
  simp only [lS0, lS1]
  refine hTk 3 ?_
  simp only [lS0, lS1]
  refine hTk 4 ?_
  simp only [lS0, lS1]
  refine hTk 5 ?_
  simp only [lS0, lS1]
  refine hTk 7 ?_
  simp only [lS0, lS1]
  refine hTk 8 ?_
  simp only [lS0, lS1]
  refine hTk 9 ?_
  simp only [lS0, lS1]
  refine hTy 10 rfl (by intro w hSw; have S0 := hSw.c 0 _ rfl; go_simp; try with_reducible rfl) ?_
  simp only [lS0, lS1]
  refine hCall 6 (f := 147) (args := #[.float .f32 pl]) (by kernel_rfl) (by rfl) (by rfl) (by go_simp) ?_
  refine Calls.mono (side_any pl _) ?_
  rintro e w3 ⟨rfl, rfl⟩
  refine ⟨_, rfl, hHeld, ?_⟩
  rw [hs]
  simp only [lS0, lS1]
  refine hTk 11 ?_
  simp only [lS0, lS1]
  refine hTk 12 ?_
  simp only [lS0, lS1]
  refine wpAnyH_done (by kernel_rfl) ?_ _
  go_wp2_with fail
  refine Calls.mono (shFull_any B b bd bm ov s _ H0.out.hs) ?_
  rintro e w4 ⟨rfl, g4⟩
  have H4 := Hid.mk' (H0.out.grown g4)
  have A4 := Hid.mk' (A0.out.grown g4)
  have G4 := Hid.mk' ((grownBy_drew G0.out).trans g4)
  have c10 := H4.out.hs.at_.c 10 _ rfl
  have a0 := A4.out.c 0 _ rfl
  have a1 := A4.out.c 1 _ rfl
  have p0 := A4.out.f 0
  have p1 := A4.out.f 1
  rw [hf]
  have hwr : IntKind.i64.wrap (s.ms.m + 1) = s.ms.m + 1 := by simp [IntKind.wrap, IntKind.bits, IntKind.signed]; omega
  have hne : b ≠ w4.heap.size := by have := H4.out.hs.at_.lt; omega
  have c0 := H4.out.hs.at_.c 0 _ rfl
  go_wp2_with fail
  refine wp_region_held_drew (S := fun w' => At w' b (s.cells bd (.map (some bm)) ov)) (by kernel_rfl) (H4.out.hs.at_.drew) (fun hHeld => ?_)
  refine hTk 0 ?_
  simp only [lS0, lS1]
  refine hTk 1 ?_
  simp only [lS0, lS1]
  refine hTk 2 ?_
  simp only [lS0, lS1]
  refine hTy 3 rfl (by intro w hSw; have S0 := hSw.c 0 _ rfl; go_simp; try with_reducible rfl) ?_
  simp only [lS0, lS1]
  refine hTk 4 ?_
  simp only [lS0, lS1]
  refine hTk 5 ?_
  simp only [lS0, lS1]
  refine hTk 6 ?_
  simp only [lS0, lS1]
  refine hTk 7 ?_
  simp only [lS0, lS1]
  refine hTk 8 ?_
  simp only [lS0, lS1]
  refine hTy 9 rfl (by intro w hSw; have S10 := hSw.c 10 _ rfl; go_simp; try with_reducible rfl) ?_
  simp only [lS0, lS1]
  refine hTk 10 ?_
  simp only [lS0, lS1]
  refine hTk 11 ?_
  simp only [lS0, lS1]
  refine hRun 12 (by kernel_rfl) (by rfl) (by rfl) ?_
  intro K hK
  go_simp
  refine hK _ _ (hHeld.grown (World.grownBy_alloc _ _ none)) ?_
  clear hK K
  have hHeld := hHeld.grown (World.grownBy_alloc _ (.cells #[.int .i64 0, .int .i64 0] 32) none)
  have X0 := At.new w4.drew [.int .i64 0, .int .i64 0] 32
  refine hRun 13 (by kernel_rfl) (by rfl) (by rfl) ?_
  intro K hK
  go_simp
  have X1 : At ((w4.alloc (.cells #[.int .i64 s.no, .int .i64 (s.ms.m + 1)] 32)).drew) w4.heap.size [.int .i64 s.no, .int .i64 (s.ms.m + 1)] := (At.new w4 [.int .i64 s.no, .int .i64 (s.ms.m + 1)] 32).drew
  have g5 := grownBy_drew (World.grownBy_alloc w4 (.cells #[.int .i64 s.no, .int .i64 (s.ms.m + 1)] 32) none)
  refine hK _ _ (H4.out.grown g5).hs.at_ ?_
  clear hK K X0 hHeld
  refine wpAnyH_done (by kernel_rfl) ?_ _
  have G5 := Hid.mk' (G4.out.trans g5)
  have A5 := Hid.mk' (A4.out.grown g5)
  have x0 := X1.c 0 _ rfl
  have x1 := X1.c 1 _ rfl
  have P5 := Hid.mk' (PP.out.only ((Only.grown G5.out).mono (A' := fun _ => False) (by simp)) (fun _ _ h => h))
  go_wp2_with fail
  refine Calls.mono (JR.out _ P5.out) ?_
  rintro e w6 ⟨rfl, P6, O6⟩
  have z4 := G4.out.size
  have s0 : w.heap.size + 1 <= w4.heap.size := by simpa using g4.size
  have A6 := A5.out.only O6 (fun e => by have := HF.out _ e; omega)
  have X6 := X1.only O6 (fun e => by have := HF.out _ e; omega)
  have y0 := X6.c 0 _ rfl
  have y1 := X6.c 1 _ rfl
  have a0 := A6.c 0 _ rfl
  have a1 := A6.c 1 _ rfl
  have q0 := A6.f 0
  have q1 := A6.f 1
  have ON : ∀ u v, Only w ((w6.setCell ⟨w.heap.size, 0, none⟩ u).setCell ⟨w.heap.size, 1, none⟩ v) F := fun u v =>
    (((Only.grown G5.out).mono (by simp)).trans (O6.mono (fun _ _ e => .inl e))).trans ((Only.set2 w6 w.heap.size 0 1 _ _).mono (fun _ _ e => .inr (Nat.le_of_eq e.symm)))
  have PN : ∀ u v, PS ((w6.setCell ⟨w.heap.size, 0, none⟩ u).setCell ⟨w.heap.size, 1, none⟩ v) b (s.jrn (s.mintRec pl sp)).2 (NX w ((w6.setCell ⟨w.heap.size, 0, none⟩ u).setCell ⟨w.heap.size, 1, none⟩ v) F) := fun u v => by
    have o := Only.set2 w6 w.heap.size 0 1 u v
    have P7 := P6.only o (fun j hj e => by subst e; rcases hj.1 with h | h; have := HF.out _ h; omega; have := G5.out.size; have := g5.size; omega)
    refine P7.mono (fun j hj h => ⟨?_, hj⟩)
    rcases h.1 with h | h
    · exact .inl h
    · exact .inr (Nat.le_trans G5.out.size h)
  generalize hjr : s.jrn (s.mintRec pl sp) = jr at *
  obtain ⟨er, s1⟩ := jr
  simp only at *
  by_cases he : er = 0
  · subst he
    have B6 := (A6.put 0 (.int .i64 s.no) (by simp)).put 1 (.int .i64 (s.ms.m + 1)) (by simp)
    have b0 := B6.c 0 _ rfl
    have b1 := B6.c 1 _ rfl
    go_wp2
    all_goals exact bodyPost_ret (v := idE s.no (s.ms.m + 1) 0) (by simp [results, Tryz.results93, idE, go_sem, *]) rfl ⟨by rfl, PN _ _, ON _ _⟩
  · have he' : (er == 0) = false := by simpa using he
    have B6 := (A6.put 0 (.int .i64 0) (by simp)).put 1 (.int .i64 0) (by simp)
    have b0 := B6.c 0 _ rfl
    have b1 := B6.c 1 _ rfl
    go_wp2
    all_goals exact bodyPost_ret (v := idE 0 0 er) (by simp [results, Tryz.results93, idE, go_sem, *]) rfl ⟨by rfl, PN _ _, ON _ _⟩
theorem tick_ps (b : Nat) (s : Sh) (F : Nat -> Prop) (w : World) (h : PS w b s F) (hu : s.up = true) (hct : s.ct < 2) (hcj : s.cJ <= 5000) (ok : DrInv s /\ s.th.length <= 1000 /\ ∀ x ∈ s.th, nearB x.pl = true /\ nearB x.sp = true) :
    Calls Tryz.prog 80 #[.pointer (some ⟨b, 0, none⟩)] w fun e w' => e = .returned (.int .i64 (s.jrn ⟨3, 0, it0, mk0, [], []⟩).1) /\ PS w' b (s.jrn ⟨3, 0, it0, mk0, [], []⟩).2 (NX w w' F) /\ Only w w' F := by
  have J := Hid.mk' (journal_ps b s F ⟨3, 0, it0, mk0, [], []⟩ w h hu ⟨rfl, rfl⟩ (by decide) ⟨⟨by decide, by decide⟩, by simp, by simp⟩ hct hcj ⟨.inr (.inr (.inl rfl)), by unfold i64B it0; decide, fun _ => ok⟩)
  clear h ok
  go_enter Tryz.func80, Tryz.ntmps80
  go_wp2_with fail
  refine Calls.mono J.out ?_
  rintro e w1 ⟨rfl, h1, h2⟩
  go_wp2
  go_ret
  exact ⟨rfl, h1, h2⟩
def gotTh (th : List It) (a b : Int) : It := (th.find? (fun x => decide (x.sh = a /\ x.nu = b))).getD it0
theorem got_at : ∀ {th : List It} {j : Nat} {i : It} {a b : Int}, th.Pairwise (fun a b => ¬ a.same b) -> th[j]? = some i -> i.sh = a -> i.nu = b -> gotTh th a b = i
  | [], j, i, a, b, _, h, _, _ => by simp at h
  | x :: r, 0, i, a, b, _, h, ea, eb => by
    simp at h
    subst h
    simp [gotTh, ea, eb]
  | x :: r, j + 1, i, a, b, nd, h, ea, eb => by
    have nd' := List.pairwise_cons.1 nd
    have hi : r[j]? = some i := by simpa using h
    have hx : ¬ (x.sh = a /\ x.nu = b) := fun e => nd'.1 i (List.mem_of_getElem? hi) (by unfold It.same; omega)
    have := got_at (th := r) nd'.2 hi ea eb
    unfold gotTh at *
    rw [List.find?_cons, decide_eq_false hx]
    exact this
theorem Mp.look4 {w : World} {bm : Nat} {th : List It} (h : Mp w bm th) (a b : Int) (ha : i64B a) (hb : i64B b) :
    (Instr.lookup 128 (.map (some bm)) (idV a b) true).run Tryz.prog w = .ok (.tuple #[itV (gotTh th a b), .bool (hasTh th a b)]) w := by
  have nd := h.nd
  obtain ⟨es, clock, hbm, hs, hm, hf⟩ := h.find a b ha hb
  obtain ⟨l, hl⟩ := idKey a b ha hb
  rcases hf with ⟨h0, hr⟩ | ⟨h1, j, i, e, hj, hi, ea, eb, _, hr⟩
  · have hz : (zeroValue 75).run Tryz.prog w = .ok (itV it0) w := Tryz.zeroValue75 w
    have hg : gotTh th a b = it0 := by
      unfold gotTh
      rw [List.find?_eq_none.2 (fun x hx => by unfold hasTh at h0; rw [List.any_eq_false] at h0; exact h0 x hx)]
      rfl
    rw [hg]
    simp [Instr.lookup, run_underlying Tryz.underlying128, MapKept.run_getObj_map hbm, idLaw.check w _ hl, hr, hz, Result.andThen, h0]
  · rw [got_at nd hi ea eb]
    have h1' : (es.toList.map pairOf)[j]? = some (pairOf e) := by rw [List.getElem?_map, hj]; rfl
    rw [hm, List.getElem?_map, hi] at h1'
    have ev : itV i = e.val := congrArg Prod.snd (Option.some.inj h1')
    rw [ev]
    simp [Instr.lookup, run_underlying Tryz.underlying128, MapKept.run_getObj_map hbm, idLaw.check w _ hl, hr, Result.andThen, h1]
theorem destroy_ps (b : Nat) (s : Sh) (F : Nat -> Prop) (x y : Int) (w : World) (h : PS w b s F) (hu : s.up = true) (hct : s.ct < 2) (hcj : s.cJ <= 5000) (hx : i64B x) (hy : i64B y) (hid : hasTh s.th x y = true -> idB x y = true) :
    Calls Tryz.prog 99 #[.pointer (some ⟨b, 0, none⟩), .agg #[.int .i64 x, .int .i64 y]] w fun e w' => (hasTh s.th x y = false -> e = .returned (.int .i64 4) /\ PS w' b s (NX w w' F) /\ Only w w' F) /\ (hasTh s.th x y = true -> e = .returned (.int .i64 (s.jrn ⟨2, 0, ⟨x, y, 0, 0⟩, mk0, [], []⟩).1) /\ PS w' b (s.jrn ⟨2, 0, ⟨x, y, 0, 0⟩, mk0, [], []⟩).2 (NX w w' F) /\ Only w w' F) := by
  have PP := Hid.mk' h
  have JR : Hid (∀ W, PS W b s F -> idB x y = true -> Calls Tryz.prog 134 #[.pointer (some ⟨b, 0, none⟩), rv 2 0 ⟨x, y, 0, 0⟩ mk0 (.slice none 0 0) (.slice none 0 0)] W fun e w' => e = .returned (.int .i64 (s.jrn ⟨2, 0, ⟨x, y, 0, 0⟩, mk0, [], []⟩).1) /\ PS w' b (s.jrn ⟨2, 0, ⟨x, y, 0, 0⟩, mk0, [], []⟩).2 (NX W w' F) /\ Only W w' F) := Hid.mk' fun W hW hb =>
    journal_ps b s F ⟨2, 0, ⟨x, y, 0, 0⟩, mk0, [], []⟩ W hW hu ⟨rfl, rfl⟩ (by simp [mayB, hb, stB, nobB, mkZ, mk0]) ⟨⟨by simp, by simp⟩, by simp, by simp⟩ hct hcj ⟨.inr (.inl rfl), ⟨hx, hy⟩, by simp⟩
  obtain ⟨bd, ⟨_, B, bm, ov, p⟩ | ⟨hu', _⟩⟩ := h
  case inr => rw [hu] at hu'; cases hu'
  have hsf := run_store_float
  have H := Hid.mk' p.su
  have g0 := grownBy_drew (World.grownBy_alloc w (.cells #[.int .i64 x, .int .i64 y] 32) none)
  have H0 := Hid.mk' (p.su.grown g0)
  have A0 := Hid.mk' (At.new w [.int .i64 x, .int .i64 y] 32).drew
  have G0 := Hid.mk' g0
  have z0 : (w.alloc (.cells #[.int .i64 x, .int .i64 y] 32)).drew.heap.size = w.heap.size + 1 := by simp
  have bl := H0.out.hs.at_.lt
  have ml := H0.out.hs.mp.lt
  clear p g0
  go_enter Tryz.func99, Tryz.ntmps99
  go_wp2_with fail
  refine wp_region_held_drew (S := fun w' => At w' b (s.cells bd (.map (some bm)) ov) /\ At w' w.heap.size [.int .i64 x, .int .i64 y] /\ Mp w' bm s.th) (by kernel_rfl) (⟨H0.out.hs.at_, A0.out, H0.out.hs.mp⟩) (fun hHeld => ?_)
  refine hTk 0 ?_
  simp only [lS0, lS1]
  refine hTk 1 ?_
  simp only [lS0, lS1]
  refine hTk 2 ?_
  simp only [lS0, lS1]
  refine hTk 3 ?_
  simp only [lS0, lS1]
  refine hTy 4 rfl (by intro w hSw; have S7 := hSw.1.c 7 _ rfl; go_simp; try with_reducible rfl) ?_
  simp only [lS0, lS1]
  refine hTy 5 rfl (by intro w hSw; have S0 := hSw.2.1.c 0 _ rfl; have S1 := hSw.2.1.c 1 _ rfl; go_simp; try with_reducible rfl) ?_
  simp only [lS0, lS1]
  refine hTy 6 rfl (by intro w hSw; have L := hSw.2.2.look4 x y hx hy; unfold idV itV at L; go_simp; try with_reducible rfl) ?_
  simp only [lS0, lS1]
  refine hTk 7 ?_
  simp only [lS0, lS1]
  refine hTk 8 ?_
  simp only [lS0, lS1]
  refine hTk 9 ?_
  simp only [lS0, lS1]
  have g1 := World.grownBy_alloc (w.alloc (.cells #[.int .i64 x, .int .i64 y] 32)).drew (.cells #[.int .i64 0, .int .i64 0, .float .f32 0, .float .f32 0] 75) none
  have g2 := grownBy_drew (World.grownBy_alloc (w.alloc (.cells #[.int .i64 x, .int .i64 y] 32)) (.cells #[.int .i64 (gotTh s.th x y).sh, .int .i64 (gotTh s.th x y).nu, .float .f32 (gotTh s.th x y).pl, .float .f32 (gotTh s.th x y).sp] 75) none)
  have H1 := Hid.mk' (H0.out.grown g1)
  have A1 := Hid.mk' (A0.out.grown g1)
  have A2 := Hid.mk' ((At.new w [.int .i64 x, .int .i64 y] 32).grown g2)
  have H2 := Hid.mk' (((H.out.grown (World.grownBy_alloc w (.cells #[.int .i64 x, .int .i64 y] 32) none))).grown g2)
  have G2 := Hid.mk' ((World.grownBy_alloc w (.cells #[.int .i64 x, .int .i64 y] 32) none).trans g2)
  refine hRun 10 (by kernel_rfl) (by rfl) (by rfl) ?_
  intro K hK
  go_simp
  refine hK _ _ ⟨H1.out.hs.at_, A1.out, H1.out.hs.mp⟩ ?_
  clear hK K
  refine hRun 11 (by kernel_rfl) (by rfl) (by rfl) ?_
  intro K hK
  go_simp
  clear hHeld
  have hHeld := And.intro H2.out.hs.at_ (And.intro A2.out H2.out.hs.mp)
  refine hK _ _ hHeld ?_
  clear hK K
  refine hTk 12 ?_
  simp only [lS0, lS1]
  refine wpAnyH_done (by kernel_rfl) ?_ _
  have x0 := A2.out.c 0 _ rfl
  have x1 := A2.out.c 1 _ rfl
  have P2 := Hid.mk' (PP.out.only ((Only.grown G2.out).mono (A' := fun _ => False) (by simp)) (fun _ _ h => h))
  by_cases hh : hasTh s.th x y = true
  · rw [hh]
    go_wp2_with fail
    refine Calls.mono (JR.out _ P2.out (hid hh)) ?_
    rintro e w3 ⟨rfl, P3, O3⟩
    go_wp2
    go_ret
    refine ⟨fun h => absurd (hh.symm.trans h) (by decide), fun _ => ⟨rfl, P3.mono (fun j hj h => ⟨?_, hj⟩), ((Only.grown G2.out).mono (by simp)).trans (O3.mono (fun _ _ e => .inl e))⟩⟩
    rcases h.1 with h | h
    · exact .inl h
    · exact .inr (Nat.le_trans G2.out.size h)
  · have hh' : hasTh s.th x y = false := by simpa using hh
    rw [hh']
    go_wp2
    go_ret
    exact ⟨fun _ => ⟨rfl, PP.out.grown G2.out, (Only.grown G2.out).mono (by simp)⟩, fun h => absurd (hh'.symm.trans h) (by decide)⟩
def Sh.mint (s : Sh) (pl sp : Nat) : (Int × Int × Int) × Sh :=
  if (nearB pl && nearB sp) = false ∨ ¬ sideB pl = (s.no : Int) then ((0, 0, 2), s)
  else if s.cI <= (s.th.length : Int) ∨ s.ms.m = 65535 then ((0, 0, 6), s)
  else if (s.jrn (s.mintRec pl sp)).1 = 0 then ((s.no, s.ms.m + 1, 0), (s.jrn (s.mintRec pl sp)).2) else ((0, 0, (s.jrn (s.mintRec pl sp)).1), (s.jrn (s.mintRec pl sp)).2)
theorem mint_ps (b : Nat) (s : Sh) (F : Nat -> Prop) (pl sp : Nat) (w : World) (h : PS w b s F) (hF : ∀ j, F j -> j < w.heap.size) (hu : s.up = true) (hct : s.ct < 2) (hcj : s.cJ <= 5000) (hno : s.no < 2) (hm0 : 0 <= s.ms.m) (hm1 : s.ms.m <= 65535) (hp : pl < 4294967296) (hq : sp < 4294967296) :
    Calls Tryz.prog 93 #[.pointer (some ⟨b, 0, none⟩), .float .f32 pl, .float .f32 sp] w fun e w' => e = .returned (idE (s.mint pl sp).1.1 (s.mint pl sp).1.2.1 (s.mint pl sp).1.2.2) /\ PS w' b (s.mint pl sp).2 (NX w w' F) /\ Only w w' F := by
  have h0 := h
  obtain ⟨bd, ⟨_, B, bm, ov, p⟩ | ⟨hu', _⟩⟩ := h
  case inr => rw [hu] at hu'; cases hu'
  have gw : ∀ (x : Int) (e : Ending) (w' : World), e = .returned (idE 0 0 x) /\ w.grownBy w' none -> e = .returned (idE 0 0 x) /\ PS w' b s (NX w w' F) /\ Only w w' F := fun x e w' hh => ⟨hh.1, h0.grown hh.2, (Only.grown hh.2).mono (by simp)⟩
  unfold Sh.mint
  by_cases hn : (nearB pl && nearB sp) = false
  · rw [if_pos (.inl hn)]
    exact (mint_far B b bd bm ov s pl sp w p.su hn).mono (gw 2)
  have hn' : (nearB pl && nearB sp) = true := by simpa using hn
  by_cases hs : ¬ sideB pl = (s.no : Int)
  · rw [if_pos (.inr hs)]
    exact (mint_side B b bd bm ov s pl sp w p.su hn' hs).mono (gw 2)
  rw [if_neg (fun e => e.elim hn hs)]
  have hs' := Classical.not_not.1 hs
  by_cases hf : s.cI <= (s.th.length : Int)
  · rw [if_pos (.inl hf)]
    exact (mint_full B b bd bm ov s pl sp w p.su hn' hs' (decide_eq_true hf)).mono (gw 6)
  by_cases hl : s.ms.m = 65535
  · rw [if_pos (.inr hl)]
    exact (mint_last B b bd bm ov s pl sp w p.su hn' hs' (decide_eq_false hf) hl).mono (gw 6)
  rw [if_neg (fun e => e.elim hf hl)]
  have n1 : nearB pl = true := (Bool.and_eq_true_iff.1 hn').1
  have n2 : nearB sp = true := (Bool.and_eq_true_iff.1 hn').2
  have hno' : (s.no : Int) = 0 ∨ (s.no : Int) = 1 := by omega
  refine (mint_go B b bd bm ov s F pl sp w p.su h0 hn' hs' (decide_eq_false hf) (by omega) hm0 (fun W hW => journal_ps b s F (s.mintRec pl sp) W hW hu ⟨rfl, rfl⟩ ?_ ⟨⟨hp, hq⟩, by simp [Sh.mintRec], by simp [Sh.mintRec]⟩ hct hcj ⟨.inl rfl, ?_, by simp [Sh.mintRec]⟩) hF).mono ?_
  · simp only [mayB, Sh.mintRec, itB, idB, n1, n2, nobB, mkZ, mk0]
    simp
    have e1 : s.no = 0 ∨ (s.no : Int) = 1 := by omega
    exact ⟨⟨e1, decide_eq_true (by omega)⟩, decide_eq_true (by omega)⟩
  · unfold i64B Sh.mintRec
    simp only
    omega
  · rintro e w' ⟨he, h1, h2⟩
    split
    · rename_i h3
      rw [if_pos h3] at he
      exact ⟨he, h1, h2⟩
    · rename_i h3
      rw [if_neg h3] at he
      exact ⟨he, h1, h2⟩
def Sh.snap (s : Sh) : Int × Sh :=
  if s.ms.g = 65535 then (5, s)
  else if s.cJ < ((frm s.snapRec).length : Int) then (5, s)
  else if (s.dk.cut (1 - s.ct)).2 = false then (3, s.down.on (s.dk.cut (1 - s.ct)).1)
  else if ((s.dk.cut (1 - s.ct)).1.append (1 - s.ct) (frm s.snapRec)).2 = false then (3, s.down.on ((s.dk.cut (1 - s.ct)).1.append (1 - s.ct) (frm s.snapRec)).1)
  else if (((s.dk.cut (1 - s.ct)).1.append (1 - s.ct) (frm s.snapRec)).1.sync (1 - s.ct)).2 = false then (3, s.down.on (((s.dk.cut (1 - s.ct)).1.append (1 - s.ct) (frm s.snapRec)).1.sync (1 - s.ct)).1)
  else (0, { s with ct := 1 - s.ct, ms := { s.ms with g := s.ms.g + 1 }, dk := (((s.dk.cut (1 - s.ct)).1.append (1 - s.ct) (frm s.snapRec)).1.sync (1 - s.ct)).1 })
theorem snap_ps (b : Nat) (s : Sh) (F : Nat -> Prop) (w : World) (h : PS w b s F) (hu : s.up = true) (hl : s.th.length <= 1000) (hlo : s.ob.length <= 1000) (hct : s.ct < 2) (hg0 : 0 <= s.ms.g) (hg1 : s.ms.g <= 65535) (hm : s.ms.g < 65535 -> mayB s.snapRec = true) (wf : WfR s.snapRec) :
    Calls Tryz.prog 68 #[.pointer (some ⟨b, 0, none⟩)] w fun e w' => e = .returned (.int .i64 s.snap.1) /\ PS w' b s.snap.2 (NX w w' F) /\ Only w w' F := by
  have h0 := h
  obtain ⟨bd, ⟨_, B, bm, ov, p⟩ | ⟨hu', _⟩⟩ := h
  case inr => rw [hu] at hu'; cases hu'
  unfold Sh.snap
  split
  · rename_i hg
    refine (snap_last b bd _ _ s w p.su.hs.at_ hg).mono ?_
    rintro e w' ⟨he, rfl⟩
    exact ⟨he, h0.grown (grownBy_refl _ _), Only.refl _ _⟩
  rename_i hg
  have hg1' : s.ms.g < 65535 := by omega
  have hm' := hm hg1'
  split
  · rename_i hc
    refine (snap_full B b bd bm ov s w p.su hl hlo hct hg0 hg1' hm' wf hc).mono ?_
    rintro e w' ⟨he, g⟩
    exact ⟨he, h0.grown g, (Only.grown g).mono (by simp)⟩
  rename_i hc
  have ff : ∀ w' : World, Only w w' (fun j => j = b ∨ j = bd) -> Only w w' F := fun w' o => o.mono (fun j _ e => by rcases e with rfl | rfl; exact p.f1; exact p.f2)
  have ok1 := p.su.ok.cut (1 - s.ct)
  split
  · rename_i h1
    refine (snap_cut B b bd bm ov s w p.su hl hlo hct hg0 hg1' hm' wf hc h1).mono ?_
    rintro e w' ⟨he, q1, q2, o⟩
    exact ⟨he, ps_down q1 q2 ok1 p.su.d1 p.f1 p.f2, ff w' o⟩
  rename_i h1
  have h1' : (s.dk.cut (1 - s.ct)).2 = true := by simpa using h1
  have hfl : (frm s.snapRec).length <= 1200 := by have := (enc_len s.snapRec hm').2; unfold frm; rw [List.length_append]; simp [n2]; omega
  have ok2 := (ok1.append (1 - s.ct) (frm s.snapRec) (by rw [cut_len _ _ h1']; omega)).act
  split
  · rename_i h2
    refine (snap_app B b bd bm ov s w p.su hl hlo hct hg0 hg1' hm' wf hc h1' h2).mono ?_
    rintro e w' ⟨he, q1, q2, o⟩
    exact ⟨he, ps_down q1 q2 ok2 p.su.d1 p.f1 p.f2, ff w' o⟩
  rename_i h2
  have h2' : ((s.dk.cut (1 - s.ct)).1.append (1 - s.ct) (frm s.snapRec)).2 = true := by simpa using h2
  split
  · rename_i h3
    refine (snap_syn B b bd bm ov s w p.su hl hlo hct hg0 hg1' hm' wf hc h1' h2' h3).mono ?_
    rintro e w' ⟨he, q1, q2, o⟩
    exact ⟨he, ps_down q1 q2 (Dk.Ok.sync ok2 _) p.su.d1 p.f1 p.f2, ff w' o⟩
  rename_i h3
  have h3' : (((s.dk.cut (1 - s.ct)).1.append (1 - s.ct) (frm s.snapRec)).1.sync (1 - s.ct)).2 = true := by simpa using h3
  refine (snap_ok B b bd bm ov s w p.su hl hlo hct hg0 hg1' hm' wf hc h1' h2' h3').mono ?_
  rintro e w' ⟨he, q1, q2, o⟩
  refine ⟨he, ⟨bd, .inl ⟨hu, B, bm, ov, ⟨q1.on _, q2, Dk.Ok.sync ok2 _, p.su.d1, p.su.d2, p.su.d3⟩, ⟨.inl p.f1, q1.at_.lt⟩, ⟨.inl p.f2, q2.lt⟩, ⟨.inl p.f3, q1.mp.lt⟩, fun j hj => ⟨.inl (p.f4 j hj), (q1.ob.lt j hj).2⟩⟩⟩, ff w' o⟩
theorem PS.cells {w : World} {b : Nat} {s : Sh} {F : Nat -> Prop} (h : PS w b s F) : ∃ bd mv ov, At w b (s.cells bd mv ov) /\ At w bd s.dk.cells /\ s.dk.Ok /\ bd ≠ b /\ F b /\ F bd := by
  obtain ⟨bd, ⟨_, B, bm, ov, p⟩ | ⟨_, p⟩⟩ := h
  · exact ⟨bd, _, _, p.su.hs.at_, p.su.dk, p.su.ok, p.su.d1, p.f1, p.f2⟩
  · exact ⟨bd, _, _, p.at_, p.dk, p.ok, p.d1, p.f1, p.f2⟩
theorem crash_ps (b : Nat) (s : Sh) (F : Nat -> Prop) (keep : Int) (w : World) (h : PS w b s F) :
    Calls Tryz.prog 44 #[.pointer (some ⟨b, 0, none⟩), .int .i64 keep] w fun e w' => e = .returned (.tuple #[]) /\ PS w' b (s.down.on (s.dk.crash keep)) (NX w w' F) /\ Only w w' F := by
  obtain ⟨bd, mv, ov, h1, h2, ok, ne, f1, f2⟩ := h.cells
  refine (shCrash_any b bd mv ov s keep w h1 h2 ok ne).mono ?_
  rintro e w' ⟨he, q1, q2, o⟩
  exact ⟨he, ps_down q1 q2 (ok.crash keep) ne f1 f2, o.mono (fun j _ e => by rcases e with rfl | rfl; exact f1; exact f2)⟩
theorem break_ps (b : Nat) (s : Sh) (F : Nat -> Prop) (k keep : Int) (w : World) (h : PS w b s F) (hk : k <= 9223372036854775807) :
    Calls Tryz.prog 67 #[.pointer (some ⟨b, 0, none⟩), .int .i64 k, .int .i64 keep] w fun e w' => (k < 0 /\ e = .returned (.int .i64 2) /\ w' = w) ∨ (0 <= k /\ e = .returned (.int .i64 0) /\ PS w' b (s.on { s.dk with un := k, kp := keep }) (NX w w' F) /\ Only w w' F) := by
  have h0 := h
  obtain ⟨bd, mv, ov, h1, h2, ok, ne, f1, f2⟩ := h.cells
  obtain ⟨bd, hh⟩ := h
  have key : ∀ (mv ov : Value), At w b (s.cells bd mv ov) -> At w bd s.dk.cells -> s.dk.Ok -> F bd -> (∀ w', At w' bd ({ s.dk with un := k, kp := keep } : Dk).cells -> ({ s.dk with un := k, kp := keep } : Dk).Ok -> Only w w' (fun j => j = bd) -> PS w' b (s.on { s.dk with un := k, kp := keep }) (NX w w' F)) -> Calls Tryz.prog 67 #[.pointer (some ⟨b, 0, none⟩), .int .i64 k, .int .i64 keep] w fun e w' => (k < 0 /\ e = .returned (.int .i64 2) /\ w' = w) ∨ (0 <= k /\ e = .returned (.int .i64 0) /\ PS w' b (s.on { s.dk with un := k, kp := keep }) (NX w w' F) /\ Only w w' F) := fun mv ov c1 c2 ok f2 hp => by
    refine (shBreak_any b bd mv ov s k keep w c1 c2).mono ?_
    rintro e w' (⟨q1, q2, q3⟩ | ⟨q1, q2, q3, o⟩)
    · exact .inl ⟨q1, q2, q3⟩
    · exact .inr ⟨q1, q2, hp w' q3 ⟨ok.a0, ok.a1, ok.b0, ok.b1, q1, hk⟩ o, o.mono (fun j _ e => by rw [e]; exact f2)⟩
  rcases hh with ⟨hu, B, bm, ov, p⟩ | ⟨hu, p⟩
  · refine key _ _ p.su.hs.at_ p.su.dk p.su.ok p.f2 (fun w' c ok' o => ?_)
    have q := p.su.hs.disk o p.su.d1 p.su.d2 p.su.d3
    exact ⟨bd, .inl ⟨hu, B, bm, ov, ⟨q.on _, c, ok', p.su.d1, p.su.d2, p.su.d3⟩, ⟨.inl p.f1, q.at_.lt⟩, ⟨.inl p.f2, c.lt⟩, ⟨.inl p.f3, q.mp.lt⟩, fun j hj => ⟨.inl (p.f4 j hj), (q.ob.lt j hj).2⟩⟩⟩
  · refine key _ _ p.at_ p.dk p.ok p.f2 (fun w' c ok' o => ?_)
    have q := p.at_.only o (fun e => p.d1 e.symm)
    exact ⟨bd, .inr ⟨hu, q, c, ok', p.d1, ⟨.inl p.f1, q.lt⟩, ⟨.inl p.f2, c.lt⟩, p.e1, p.e2, p.e3⟩⟩
theorem world_ps (b : Nat) (s : Sh) (F : Nat -> Prop) (w : World) (h : PS w b s F) (hu : s.up = true) (hl : s.th.length <= 1000) :
    Calls Tryz.prog 39 #[.pointer (some ⟨b, 0, none⟩)] w fun e w' => ∃ v, e = .returned v /\ OwnI w.heap.size w' v (srtTh s.th) /\ w.grownBy w' none := by
  obtain ⟨bd, ⟨_, B, bm, ov, p⟩ | ⟨hu', _⟩⟩ := h
  case inr => rw [hu] at hu'; cases hu'
  refine (shWorld_any B b bd bm ov s w p.su.hs hl).mono ?_
  rintro e w' ⟨v, ss, he, hp, hs, ho, g⟩
  obtain rfl := srt_is hs hp p.su.hs.mp.nd
  exact ⟨v, he, ho, g⟩
theorem outbox_ps (b : Nat) (s : Sh) (F : Nat -> Prop) (w : World) (h : PS w b s F) (hu : s.up = true) (hl : s.ob.length <= 1000) :
    Calls Tryz.prog 40 #[.pointer (some ⟨b, 0, none⟩)] w fun e w' => ∃ v, e = .returned v /\ OwnE w.heap.size w' v s.ob /\ w.grownBy w' none := by
  obtain ⟨bd, ⟨_, B, bm, ov, p⟩ | ⟨hu', _⟩⟩ := h
  case inr => rw [hu] at hu'; cases hu'
  have E := Hid.mk' (entries_any B b 7 ov s.ob w (p.su.hs.at_.c 8 _ rfl) p.su.hs.ob hl)
  clear p hu
  go_enter Tryz.func40, Tryz.ntmps40
  go_wp2_with fail
  refine Calls.mono E.out ?_
  rintro e w1 ⟨v, rfl, h1, g1⟩
  go_wp2
  go_ret
  exact ⟨v, rfl, h1, g1⟩
theorem marks_ps (b : Nat) (s : Sh) (F : Nat -> Prop) (w : World) (h : PS w b s F) :
    Calls Tryz.prog 41 #[.pointer (some ⟨b, 0, none⟩)] w fun e w' => e = .returned (.agg #[.int .i64 s.ms.g, .int .i64 s.ms.m, .int .i64 s.ms.s, .int .i64 s.ms.a, .int .i64 s.ms.n]) /\ w.grownBy w' none := by
  obtain ⟨bd, mv, ov, h1, _⟩ := h.cells
  exact shMarks_any b bd mv ov s w h1
theorem file_ps (b : Nat) (s : Sh) (F : Nat -> Prop) (n : Int) (w : World) (h : PS w b s F) :
    Calls Tryz.prog 158 #[.pointer (some ⟨b, 0, none⟩), .int .i64 n] w fun e w' => e = .returned (.tuple #[.string (if n = 0 ∨ n = 1 then S (s.dk.file n.toNat) else S []), .int .i64 (if n = 0 ∨ n = 1 then 0 else 4)]) /\ w' = w := by
  obtain ⟨bd, mv, ov, h1, h2, _⟩ := h.cells
  exact shFile_any b bd mv ov s n w h1 h2
theorem up_ps (b : Nat) (s : Sh) (F : Nat -> Prop) (w : World) (h : PS w b s F) :
    Calls Tryz.prog 74 #[.pointer (some ⟨b, 0, none⟩)] w fun e w' => e = .returned (.bool s.up) /\ w' = w := by
  obtain ⟨bd, mv, ov, h1, _⟩ := h.cells
  exact shUp_any b s bd mv ov w h1
def ppC (b0 b1 : Nat) (f0 f1 : Value) : List Value := [.pointer (some ⟨b0, 0, none⟩), .pointer (some ⟨b1, 0, none⟩), f0, f1]
def is01 (i : Int) : Prop := i = 0 ∨ i = 1
instance (i : Int) : Decidable (is01 i) := by unfold is01; infer_instance
def pick01 {α : Type} (x y : α) (i : Int) : α := if i = 0 then x else y
def upE (u0 u1 : Bool) (i : Int) : Int := if is01 i then (if pick01 u0 u1 i = true then 0 else 3) else 2
theorem pAt_no (bp : Nat) (i : Int) (w : World) (hi : ¬ is01 i) :
    Calls Tryz.prog 42 #[.pointer (some ⟨bp, 0, none⟩), .int .i64 i] w fun e w' => e = .returned (.tuple #[.pointer none, .int .i64 2]) /\ w' = w := by
  unfold is01 at hi
  rcases (by omega : i < 0 ∨ (0 <= i /\ 2 <= i)) with h | ⟨h0, h⟩
  all_goals
    clear hi
    go_enter Tryz.func42, Tryz.ntmps42
    go_wp2
    go_ret2
    exact ⟨rfl, rfl⟩
theorem pAt_yes (bp b0 b1 : Nat) (f0 f1 : Value) (i : Int) (w : World) (h : At w bp (ppC b0 b1 f0 f1)) (hi : is01 i) :
    Calls Tryz.prog 42 #[.pointer (some ⟨bp, 0, none⟩), .int .i64 i] w fun e w' => e = .returned (.tuple #[.pointer (some ⟨pick01 b0 b1 i, 0, none⟩), .int .i64 0]) /\ w' = w := by
  have c0 := h.c 0 _ rfl
  have c1 := h.c 1 _ rfl
  clear h
  rcases hi with rfl | rfl
  all_goals
    go_enter Tryz.func42, Tryz.ntmps42
    go_wp2
    go_ret2
    exact ⟨rfl, rfl⟩
theorem upAt_any (bp b0 b1 : Nat) (f0 f1 : Value) (u0 u1 : Bool) (i : Int) (w : World) (h : At w bp (ppC b0 b1 f0 f1)) (h0 : Calls Tryz.prog 74 #[.pointer (some ⟨b0, 0, none⟩)] w fun e w' => e = .returned (.bool u0) /\ w' = w) (h1 : Calls Tryz.prog 74 #[.pointer (some ⟨b1, 0, none⟩)] w fun e w' => e = .returned (.bool u1) /\ w' = w) :
    Calls Tryz.prog 38 #[.pointer (some ⟨bp, 0, none⟩), .int .i64 i] w fun e w' => e = .returned (.tuple #[.pointer (if upE u0 u1 i = 0 then some ⟨pick01 b0 b1 i, 0, none⟩ else none), .int .i64 (upE u0 u1 i)]) /\ w' = w := by
  by_cases hi : is01 i
  · have A := Hid.mk' (pAt_yes bp b0 b1 f0 f1 i w h hi)
    clear h
    have U : Hid (Calls Tryz.prog 74 #[.pointer (some ⟨pick01 b0 b1 i, 0, none⟩)] w fun e w' => e = .returned (.bool (pick01 u0 u1 i)) /\ w' = w) := by
      rcases hi with rfl | rfl
      · exact h0
      · exact h1
    clear h0 h1
    have hE : upE u0 u1 i = if pick01 u0 u1 i = true then 0 else 3 := if_pos hi
    rw [hE]
    clear hE
    generalize pick01 u0 u1 i = u at *
    generalize pick01 b0 b1 i = b at *
    clear hi
    cases u
    all_goals
      go_enter Tryz.func38, Tryz.ntmps38
      go_wp2_with fail
      refine Calls.mono A.out ?_
      rintro e w1 ⟨rfl, rfl⟩
      go_wp2_with fail
      refine Calls.mono U.out ?_
      rintro e w2 ⟨rfl, rfl⟩
      go_wp2
      go_ret2
      exact ⟨rfl, rfl⟩
  · have A := Hid.mk' (pAt_no bp i w hi)
    have hE : upE u0 u1 i = 2 := if_neg hi
    rw [hE]
    clear h h0 h1 hE hi
    go_enter Tryz.func38, Tryz.ntmps38
    go_wp2_with fail
    refine Calls.mono A.out ?_
    rintro e w1 ⟨rfl, rfl⟩
    go_wp2
    go_ret2
    exact ⟨rfl, rfl⟩
theorem pTick_w (bp b0 b1 : Nat) (f0 f1 : Value) (u0 u1 : Bool) (i : Int)  (w : World) (h : At w bp (ppC b0 b1 f0 f1)) (h0 : Calls Tryz.prog 74 #[.pointer (some ⟨b0, 0, none⟩)] w fun e w' => e = .returned (.bool u0) /\ w' = w) (h1 : Calls Tryz.prog 74 #[.pointer (some ⟨b1, 0, none⟩)] w fun e w' => e = .returned (.bool u1) /\ w' = w) (Q : Ending -> World -> Prop)
    (hno : upE u0 u1 i ≠ 0 -> Q (.returned (.int .i64 (upE u0 u1 i))) w) (hok : upE u0 u1 i = 0 -> Calls Tryz.prog 80 #[.pointer (some ⟨pick01 b0 b1 i, 0, none⟩)] w fun e w' => ∃ v, e = .returned v /\ Q (.returned v) w') :
    Calls Tryz.prog 33 #[.pointer (some ⟨bp, 0, none⟩), .int .i64 i] w Q := by
  have U := Hid.mk' (upAt_any bp b0 b1 f0 f1 u0 u1 i w h h0 h1)
  clear h h0 h1
  by_cases c : upE u0 u1 i = 0
  · have OK := Hid.mk' (hok c)
    rw [c, if_pos rfl] at U
    clear hno hok c
    go_enter Tryz.func33, Tryz.ntmps33
    go_wp2_with fail
    refine Calls.mono U.out ?_
    rintro e w1 ⟨rfl, rfl⟩
    go_wp2_with fail
    refine Calls.mono OK.out ?_
    rintro e w2 ⟨v, rfl, q⟩
    go_wp2
    first | exact q | (go_ret; exact q) | (go_ret2; exact q)
  · have NO := Hid.mk' (hno c)
    rw [if_neg c] at U
    have cb : (upE u0 u1 i != 0) = true := by simpa using c
    generalize upE u0 u1 i = z at *
    clear hno hok
    go_enter Tryz.func33, Tryz.ntmps33
    go_wp2_with fail
    refine Calls.mono U.out ?_
    rintro e w1 ⟨rfl, rfl⟩
    go_wp2
    first | exact NO.out | (go_ret; exact NO.out) | (go_ret2; exact NO.out)
theorem pSnapshot_w (bp b0 b1 : Nat) (f0 f1 : Value) (u0 u1 : Bool) (i : Int)  (w : World) (h : At w bp (ppC b0 b1 f0 f1)) (h0 : Calls Tryz.prog 74 #[.pointer (some ⟨b0, 0, none⟩)] w fun e w' => e = .returned (.bool u0) /\ w' = w) (h1 : Calls Tryz.prog 74 #[.pointer (some ⟨b1, 0, none⟩)] w fun e w' => e = .returned (.bool u1) /\ w' = w) (Q : Ending -> World -> Prop)
    (hno : upE u0 u1 i ≠ 0 -> Q (.returned (.int .i64 (upE u0 u1 i))) w) (hok : upE u0 u1 i = 0 -> Calls Tryz.prog 68 #[.pointer (some ⟨pick01 b0 b1 i, 0, none⟩)] w fun e w' => ∃ v, e = .returned v /\ Q (.returned v) w') :
    Calls Tryz.prog 28 #[.pointer (some ⟨bp, 0, none⟩), .int .i64 i] w Q := by
  have U := Hid.mk' (upAt_any bp b0 b1 f0 f1 u0 u1 i w h h0 h1)
  clear h h0 h1
  by_cases c : upE u0 u1 i = 0
  · have OK := Hid.mk' (hok c)
    rw [c, if_pos rfl] at U
    clear hno hok c
    go_enter Tryz.func28, Tryz.ntmps28
    go_wp2_with fail
    refine Calls.mono U.out ?_
    rintro e w1 ⟨rfl, rfl⟩
    go_wp2_with fail
    refine Calls.mono OK.out ?_
    rintro e w2 ⟨v, rfl, q⟩
    go_wp2
    first | exact q | (go_ret; exact q) | (go_ret2; exact q)
  · have NO := Hid.mk' (hno c)
    rw [if_neg c] at U
    have cb : (upE u0 u1 i != 0) = true := by simpa using c
    generalize upE u0 u1 i = z at *
    clear hno hok
    go_enter Tryz.func28, Tryz.ntmps28
    go_wp2_with fail
    refine Calls.mono U.out ?_
    rintro e w1 ⟨rfl, rfl⟩
    go_wp2
    first | exact NO.out | (go_ret; exact NO.out) | (go_ret2; exact NO.out)
theorem pDestroy_w (bp b0 b1 : Nat) (f0 f1 : Value) (u0 u1 : Bool) (i : Int) (x y : Int) (w : World) (h : At (w.alloc (.cells #[.int .i64 x, .int .i64 y] 32)) bp (ppC b0 b1 f0 f1)) (h0 : Calls Tryz.prog 74 #[.pointer (some ⟨b0, 0, none⟩)] (w.alloc (.cells #[.int .i64 x, .int .i64 y] 32)) fun e w' => e = .returned (.bool u0) /\ w' = (w.alloc (.cells #[.int .i64 x, .int .i64 y] 32))) (h1 : Calls Tryz.prog 74 #[.pointer (some ⟨b1, 0, none⟩)] (w.alloc (.cells #[.int .i64 x, .int .i64 y] 32)) fun e w' => e = .returned (.bool u1) /\ w' = (w.alloc (.cells #[.int .i64 x, .int .i64 y] 32))) (Q : Ending -> World -> Prop)
    (hno : upE u0 u1 i ≠ 0 -> Q (.returned (.int .i64 (upE u0 u1 i))) (w.alloc (.cells #[.int .i64 x, .int .i64 y] 32))) (hok : upE u0 u1 i = 0 -> Calls Tryz.prog 99 #[.pointer (some ⟨pick01 b0 b1 i, 0, none⟩), .agg #[.int .i64 x, .int .i64 y]] (w.alloc (.cells #[.int .i64 x, .int .i64 y] 32)) fun e w' => ∃ v, e = .returned v /\ Q (.returned v) w') :
    Calls Tryz.prog 48 #[.pointer (some ⟨bp, 0, none⟩), .int .i64 i, .agg #[.int .i64 x, .int .i64 y]] w Q := by
  have U := Hid.mk' (upAt_any bp b0 b1 f0 f1 u0 u1 i (w.alloc (.cells #[.int .i64 x, .int .i64 y] 32)) h h0 h1)
  clear h h0 h1
  by_cases c : upE u0 u1 i = 0
  · have OK := Hid.mk' (hok c)
    rw [c, if_pos rfl] at U
    clear hno hok c
    go_enter Tryz.func48, Tryz.ntmps48
    go_wp2_with fail
    refine Calls.mono U.out ?_
    rintro e w1 ⟨rfl, rfl⟩
    go_wp2_with fail
    refine Calls.mono OK.out ?_
    rintro e w2 ⟨v, rfl, q⟩
    go_wp2
    first | exact q | (go_ret; exact q) | (go_ret2; exact q)
  · have NO := Hid.mk' (hno c)
    rw [if_neg c] at U
    have cb : (upE u0 u1 i != 0) = true := by simpa using c
    generalize upE u0 u1 i = z at *
    clear hno hok
    go_enter Tryz.func48, Tryz.ntmps48
    go_wp2_with fail
    refine Calls.mono U.out ?_
    rintro e w1 ⟨rfl, rfl⟩
    go_wp2
    first | exact NO.out | (go_ret; exact NO.out) | (go_ret2; exact NO.out)
theorem pCrash_w (bp b0 b1 : Nat) (f0 f1 : Value) (u0 u1 : Bool) (i : Int) (k : Int) (w : World) (h : At w bp (ppC b0 b1 f0 f1)) (h0 : Calls Tryz.prog 74 #[.pointer (some ⟨b0, 0, none⟩)] w fun e w' => e = .returned (.bool u0) /\ w' = w) (h1 : Calls Tryz.prog 74 #[.pointer (some ⟨b1, 0, none⟩)] w fun e w' => e = .returned (.bool u1) /\ w' = w) (Q : Ending -> World -> Prop)
    (hno : upE u0 u1 i ≠ 0 -> Q (.returned (.int .i64 (upE u0 u1 i))) w) (hok : upE u0 u1 i = 0 -> Calls Tryz.prog 44 #[.pointer (some ⟨pick01 b0 b1 i, 0, none⟩), .int .i64 k] w fun e w' => ∃ v, e = .returned v /\ Q (.returned (.int .i64 0)) w') :
    Calls Tryz.prog 18 #[.pointer (some ⟨bp, 0, none⟩), .int .i64 i, .int .i64 k] w Q := by
  have U := Hid.mk' (upAt_any bp b0 b1 f0 f1 u0 u1 i w h h0 h1)
  clear h h0 h1
  by_cases c : upE u0 u1 i = 0
  · have OK := Hid.mk' (hok c)
    rw [c, if_pos rfl] at U
    clear hno hok c
    go_enter Tryz.func18, Tryz.ntmps18
    go_wp2_with fail
    refine Calls.mono U.out ?_
    rintro e w1 ⟨rfl, rfl⟩
    go_wp2_with fail
    refine Calls.mono OK.out ?_
    rintro e w2 ⟨v, rfl, q⟩
    go_wp2
    first | exact q | (go_ret; exact q) | (go_ret2; exact q)
  · have NO := Hid.mk' (hno c)
    rw [if_neg c] at U
    have cb : (upE u0 u1 i != 0) = true := by simpa using c
    generalize upE u0 u1 i = z at *
    clear hno hok
    go_enter Tryz.func18, Tryz.ntmps18
    go_wp2_with fail
    refine Calls.mono U.out ?_
    rintro e w1 ⟨rfl, rfl⟩
    go_wp2
    first | exact NO.out | (go_ret; exact NO.out) | (go_ret2; exact NO.out)
theorem pWorld_w (bp b0 b1 : Nat) (f0 f1 : Value) (u0 u1 : Bool) (i : Int)  (w : World) (h : At w bp (ppC b0 b1 f0 f1)) (h0 : Calls Tryz.prog 74 #[.pointer (some ⟨b0, 0, none⟩)] w fun e w' => e = .returned (.bool u0) /\ w' = w) (h1 : Calls Tryz.prog 74 #[.pointer (some ⟨b1, 0, none⟩)] w fun e w' => e = .returned (.bool u1) /\ w' = w) (Q : Ending -> World -> Prop)
    (hno : upE u0 u1 i ≠ 0 -> Q (.returned (.tuple #[.slice none 0 0, .int .i64 (upE u0 u1 i)])) w) (hok : upE u0 u1 i = 0 -> Calls Tryz.prog 39 #[.pointer (some ⟨pick01 b0 b1 i, 0, none⟩)] w fun e w' => ∃ v, e = .returned v /\ Q (.returned (.tuple #[v, .int .i64 0])) w') :
    Calls Tryz.prog 14 #[.pointer (some ⟨bp, 0, none⟩), .int .i64 i] w Q := by
  have U := Hid.mk' (upAt_any bp b0 b1 f0 f1 u0 u1 i w h h0 h1)
  clear h h0 h1
  by_cases c : upE u0 u1 i = 0
  · have OK := Hid.mk' (hok c)
    rw [c, if_pos rfl] at U
    clear hno hok c
    go_enter Tryz.func14, Tryz.ntmps14
    go_wp2_with fail
    refine Calls.mono U.out ?_
    rintro e w1 ⟨rfl, rfl⟩
    go_wp2_with fail
    refine Calls.mono OK.out ?_
    rintro e w2 ⟨v, rfl, q⟩
    go_wp2
    first | exact q | (go_ret; exact q) | (go_ret2; exact q)
  · have NO := Hid.mk' (hno c)
    rw [if_neg c] at U
    have cb : (upE u0 u1 i != 0) = true := by simpa using c
    generalize upE u0 u1 i = z at *
    clear hno hok
    go_enter Tryz.func14, Tryz.ntmps14
    go_wp2_with fail
    refine Calls.mono U.out ?_
    rintro e w1 ⟨rfl, rfl⟩
    go_wp2
    first | exact NO.out | (go_ret; exact NO.out) | (go_ret2; exact NO.out)
theorem pOutbox_w (bp b0 b1 : Nat) (f0 f1 : Value) (u0 u1 : Bool) (i : Int)  (w : World) (h : At w bp (ppC b0 b1 f0 f1)) (h0 : Calls Tryz.prog 74 #[.pointer (some ⟨b0, 0, none⟩)] w fun e w' => e = .returned (.bool u0) /\ w' = w) (h1 : Calls Tryz.prog 74 #[.pointer (some ⟨b1, 0, none⟩)] w fun e w' => e = .returned (.bool u1) /\ w' = w) (Q : Ending -> World -> Prop)
    (hno : upE u0 u1 i ≠ 0 -> Q (.returned (.tuple #[.slice none 0 0, .int .i64 (upE u0 u1 i)])) w) (hok : upE u0 u1 i = 0 -> Calls Tryz.prog 40 #[.pointer (some ⟨pick01 b0 b1 i, 0, none⟩)] w fun e w' => ∃ v, e = .returned v /\ Q (.returned (.tuple #[v, .int .i64 0])) w') :
    Calls Tryz.prog 15 #[.pointer (some ⟨bp, 0, none⟩), .int .i64 i] w Q := by
  have U := Hid.mk' (upAt_any bp b0 b1 f0 f1 u0 u1 i w h h0 h1)
  clear h h0 h1
  by_cases c : upE u0 u1 i = 0
  · have OK := Hid.mk' (hok c)
    rw [c, if_pos rfl] at U
    clear hno hok c
    go_enter Tryz.func15, Tryz.ntmps15
    go_wp2_with fail
    refine Calls.mono U.out ?_
    rintro e w1 ⟨rfl, rfl⟩
    go_wp2_with fail
    refine Calls.mono OK.out ?_
    rintro e w2 ⟨v, rfl, q⟩
    go_wp2
    first | exact q | (go_ret; exact q) | (go_ret2; exact q)
  · have NO := Hid.mk' (hno c)
    rw [if_neg c] at U
    have cb : (upE u0 u1 i != 0) = true := by simpa using c
    generalize upE u0 u1 i = z at *
    clear hno hok
    go_enter Tryz.func15, Tryz.ntmps15
    go_wp2_with fail
    refine Calls.mono U.out ?_
    rintro e w1 ⟨rfl, rfl⟩
    go_wp2
    first | exact NO.out | (go_ret; exact NO.out) | (go_ret2; exact NO.out)
theorem pBreak_w (bp b0 b1 : Nat) (f0 f1 : Value) (i : Int) (k n : Int) (w : World) (h : At w bp (ppC b0 b1 f0 f1)) (Q : Ending -> World -> Prop)
    (hno : ¬ is01 i -> Q (.returned (.int .i64 2)) w) (hok : is01 i -> Calls Tryz.prog 67 #[.pointer (some ⟨pick01 b0 b1 i, 0, none⟩), .int .i64 k, .int .i64 n] w fun e w' => ∃ v, e = .returned v /\ Q (.returned v) w') :
    Calls Tryz.prog 27 #[.pointer (some ⟨bp, 0, none⟩), .int .i64 i, .int .i64 k, .int .i64 n] w Q := by
  by_cases c : is01 i
  · have U := Hid.mk' (pAt_yes bp b0 b1 f0 f1 i w h c)
    have OK := Hid.mk' (hok c)
    clear h hno hok c
    go_enter Tryz.func27, Tryz.ntmps27
    go_wp2_with fail
    refine Calls.mono U.out ?_
    rintro e w1 ⟨rfl, rfl⟩
    go_wp2_with fail
    refine Calls.mono OK.out ?_
    rintro e w2 ⟨v, rfl, q⟩
    go_wp2
    first | exact q | (go_ret; exact q) | (go_ret2; exact q)
  · have U := Hid.mk' (pAt_no bp i w c)
    have NO := Hid.mk' (hno c)
    clear h hno hok c
    go_enter Tryz.func27, Tryz.ntmps27
    go_wp2_with fail
    refine Calls.mono U.out ?_
    rintro e w1 ⟨rfl, rfl⟩
    go_wp2
    first | exact NO.out | (go_ret; exact NO.out) | (go_ret2; exact NO.out)
theorem pRestart_w (bp b0 b1 : Nat) (f0 f1 : Value) (i : Int)  (w : World) (h : At w bp (ppC b0 b1 f0 f1)) (Q : Ending -> World -> Prop)
    (hno : ¬ is01 i -> Q (.returned (.int .i64 2)) w) (hok : is01 i -> Calls Tryz.prog 43 #[.pointer (some ⟨pick01 b0 b1 i, 0, none⟩)] w fun e w' => ∃ v, e = .returned v /\ Q (.returned v) w') :
    Calls Tryz.prog 17 #[.pointer (some ⟨bp, 0, none⟩), .int .i64 i] w Q := by
  by_cases c : is01 i
  · have U := Hid.mk' (pAt_yes bp b0 b1 f0 f1 i w h c)
    have OK := Hid.mk' (hok c)
    clear h hno hok c
    go_enter Tryz.func17, Tryz.ntmps17
    go_wp2_with fail
    refine Calls.mono U.out ?_
    rintro e w1 ⟨rfl, rfl⟩
    go_wp2_with fail
    refine Calls.mono OK.out ?_
    rintro e w2 ⟨v, rfl, q⟩
    go_wp2
    first | exact q | (go_ret; exact q) | (go_ret2; exact q)
  · have U := Hid.mk' (pAt_no bp i w c)
    have NO := Hid.mk' (hno c)
    clear h hno hok c
    go_enter Tryz.func17, Tryz.ntmps17
    go_wp2_with fail
    refine Calls.mono U.out ?_
    rintro e w1 ⟨rfl, rfl⟩
    go_wp2
    first | exact NO.out | (go_ret; exact NO.out) | (go_ret2; exact NO.out)
theorem pMint_w (bp b0 b1 : Nat) (f0 f1 : Value) (u0 u1 : Bool) (i : Int) (pl sp : Nat) (w : World) (h : At (w.alloc (.cells #[.int .i64 0, .int .i64 0] 32)) bp (ppC b0 b1 f0 f1)) (h0 : Calls Tryz.prog 74 #[.pointer (some ⟨b0, 0, none⟩)] (w.alloc (.cells #[.int .i64 0, .int .i64 0] 32)) fun e w' => e = .returned (.bool u0) /\ w' = (w.alloc (.cells #[.int .i64 0, .int .i64 0] 32))) (h1 : Calls Tryz.prog 74 #[.pointer (some ⟨b1, 0, none⟩)] (w.alloc (.cells #[.int .i64 0, .int .i64 0] 32)) fun e w' => e = .returned (.bool u1) /\ w' = (w.alloc (.cells #[.int .i64 0, .int .i64 0] 32))) (Q : Ending -> World -> Prop)
    (hno : upE u0 u1 i ≠ 0 -> ∀ w', Only (w.alloc (.cells #[.int .i64 0, .int .i64 0] 32)) w' (fun j => j = w.heap.size) -> Q (.returned (.tuple #[.agg #[.int .i64 0, .int .i64 0], .int .i64 (upE u0 u1 i)])) w')
    (hok : upE u0 u1 i = 0 -> Calls Tryz.prog 93 #[.pointer (some ⟨pick01 b0 b1 i, 0, none⟩), .float .f32 pl, .float .f32 sp] (w.alloc (.cells #[.int .i64 0, .int .i64 0] 32)) fun e w' => ∃ x y z : Int, e = .returned (.tuple #[.agg #[.int .i64 x, .int .i64 y], .int .i64 z]) /\ At w' w.heap.size [.int .i64 0, .int .i64 0] /\ (∀ w'', Only w' w'' (fun j => j = w.heap.size) -> Q (.returned (.tuple #[.agg #[.int .i64 x, .int .i64 y], .int .i64 z])) w'')) :
    Calls Tryz.prog 46 #[.pointer (some ⟨bp, 0, none⟩), .int .i64 i, .float .f32 pl, .float .f32 sp] w Q := by
  have U := Hid.mk' (upAt_any bp b0 b1 f0 f1 u0 u1 i (w.alloc (.cells #[.int .i64 0, .int .i64 0] 32)) h h0 h1)
  clear h h0 h1
  by_cases c : upE u0 u1 i = 0
  · have OK := Hid.mk' (hok c)
    rw [c, if_pos rfl] at U
    clear hno hok c
    go_enter Tryz.func46, Tryz.ntmps46
    go_wp2_with fail
    refine Calls.mono U.out ?_
    rintro e w1 ⟨rfl, rfl⟩
    go_wp2_with fail
    refine Calls.mono OK.out ?_
    rintro e w2 ⟨x, y, z, rfl, at2, q⟩
    have A3 := at2.all [.int .i64 x, .int .i64 y] rfl
    have QQ := Hid.mk' (q _ (putL_only w.heap.size [.int .i64 x, .int .i64 y] w2 0))
    have hf := at2.f
    have c0 := at2.c 0 _ rfl
    have c1 := at2.c 1 _ rfl
    have k0 := A3.c 0 _ rfl
    have k1 := A3.c 1 _ rfl
    simp only [putL, Nat.reduceAdd] at k0 k1 QQ
    clear at2 q A3
    go_wp2
    exact bodyPost_ret (v := .tuple #[.agg #[.int .i64 x, .int .i64 y], .int .i64 z]) (by simp [results, Tryz.results46, go_sem, *]) rfl QQ.out
  · have NO := Hid.mk' (hno c)
    rw [if_neg c] at U
    have cb : (upE u0 u1 i != 0) = true := by simpa using c
    have QQ := Hid.mk' (NO.out _ (Only.refl _ _))
    generalize upE u0 u1 i = z at *
    clear hno hok NO
    go_enter Tryz.func46, Tryz.ntmps46
    go_wp2_with fail
    refine Calls.mono U.out ?_
    rintro e w1 ⟨rfl, rfl⟩
    go_wp2
    exact bodyPost_ret (v := .tuple #[.agg #[.int .i64 0, .int .i64 0], .int .i64 z]) (by simp [results, Tryz.results46, go_sem]) rfl QQ.out
theorem pMarks_w (bp b0 b1 : Nat) (f0 f1 : Value) (u0 u1 : Bool) (i : Int)  (w : World) (h : At (w.alloc (.cells #[.int .i64 0, .int .i64 0, .int .i64 0, .int .i64 0, .int .i64 0] 44)) bp (ppC b0 b1 f0 f1)) (h0 : Calls Tryz.prog 74 #[.pointer (some ⟨b0, 0, none⟩)] (w.alloc (.cells #[.int .i64 0, .int .i64 0, .int .i64 0, .int .i64 0, .int .i64 0] 44)) fun e w' => e = .returned (.bool u0) /\ w' = (w.alloc (.cells #[.int .i64 0, .int .i64 0, .int .i64 0, .int .i64 0, .int .i64 0] 44))) (h1 : Calls Tryz.prog 74 #[.pointer (some ⟨b1, 0, none⟩)] (w.alloc (.cells #[.int .i64 0, .int .i64 0, .int .i64 0, .int .i64 0, .int .i64 0] 44)) fun e w' => e = .returned (.bool u1) /\ w' = (w.alloc (.cells #[.int .i64 0, .int .i64 0, .int .i64 0, .int .i64 0, .int .i64 0] 44))) (Q : Ending -> World -> Prop)
    (hno : upE u0 u1 i ≠ 0 -> ∀ w', Only (w.alloc (.cells #[.int .i64 0, .int .i64 0, .int .i64 0, .int .i64 0, .int .i64 0] 44)) w' (fun j => j = w.heap.size) -> Q (.returned (.tuple #[.agg #[.int .i64 0, .int .i64 0, .int .i64 0, .int .i64 0, .int .i64 0], .int .i64 (upE u0 u1 i)])) w')
    (hok : upE u0 u1 i = 0 -> Calls Tryz.prog 41 #[.pointer (some ⟨pick01 b0 b1 i, 0, none⟩)] (w.alloc (.cells #[.int .i64 0, .int .i64 0, .int .i64 0, .int .i64 0, .int .i64 0] 44)) fun e w' => ∃ g m s a n : Int, e = .returned (.agg #[.int .i64 g, .int .i64 m, .int .i64 s, .int .i64 a, .int .i64 n]) /\ At w' w.heap.size [.int .i64 0, .int .i64 0, .int .i64 0, .int .i64 0, .int .i64 0] /\ (∀ w'', Only w' w'' (fun j => j = w.heap.size) -> Q (.returned (.tuple #[.agg #[.int .i64 g, .int .i64 m, .int .i64 s, .int .i64 a, .int .i64 n], .int .i64 0])) w'')) :
    Calls Tryz.prog 16 #[.pointer (some ⟨bp, 0, none⟩), .int .i64 i] w Q := by
  have U := Hid.mk' (upAt_any bp b0 b1 f0 f1 u0 u1 i (w.alloc (.cells #[.int .i64 0, .int .i64 0, .int .i64 0, .int .i64 0, .int .i64 0] 44)) h h0 h1)
  clear h h0 h1
  by_cases c : upE u0 u1 i = 0
  · have OK := Hid.mk' (hok c)
    rw [c, if_pos rfl] at U
    clear hno hok c
    go_enter Tryz.func16, Tryz.ntmps16
    go_wp2_with fail
    refine Calls.mono U.out ?_
    rintro e w1 ⟨rfl, rfl⟩
    go_wp2_with fail
    refine Calls.mono OK.out ?_
    rintro e w2 ⟨g, m, s, a, n, rfl, at2, q⟩
    have A3 := at2.all [.int .i64 g, .int .i64 m, .int .i64 s, .int .i64 a, .int .i64 n] rfl
    have QQ := Hid.mk' (q _ (putL_only w.heap.size [.int .i64 g, .int .i64 m, .int .i64 s, .int .i64 a, .int .i64 n] w2 0))
    have hf := at2.f
    have c0 := at2.c 0 _ rfl
    have c1 := at2.c 1 _ rfl
    have c2 := at2.c 2 _ rfl
    have c3 := at2.c 3 _ rfl
    have c4 := at2.c 4 _ rfl
    have k0 := A3.c 0 _ rfl
    have k1 := A3.c 1 _ rfl
    have k2 := A3.c 2 _ rfl
    have k3 := A3.c 3 _ rfl
    have k4 := A3.c 4 _ rfl
    simp only [putL, Nat.reduceAdd] at k0 k1 k2 k3 k4 QQ
    clear at2 q A3
    go_wp2
    exact bodyPost_ret (v := .tuple #[.agg #[.int .i64 g, .int .i64 m, .int .i64 s, .int .i64 a, .int .i64 n], .int .i64 0]) (by simp [results, Tryz.results16, go_sem, *]) rfl QQ.out
  · have NO := Hid.mk' (hno c)
    rw [if_neg c] at U
    have cb : (upE u0 u1 i != 0) = true := by simpa using c
    have QQ := Hid.mk' (NO.out _ (Only.refl _ _))
    generalize upE u0 u1 i = z at *
    clear hno hok NO
    go_enter Tryz.func16, Tryz.ntmps16
    go_wp2_with fail
    refine Calls.mono U.out ?_
    rintro e w1 ⟨rfl, rfl⟩
    go_wp2
    exact bodyPost_ret (v := .tuple #[.agg #[.int .i64 0, .int .i64 0, .int .i64 0, .int .i64 0, .int .i64 0], .int .i64 z]) (by simp [results, Tryz.results16, go_sem]) rfl QQ.out
theorem pFile_w (bp b0 b1 : Nat) (f0 f1 : Value) (i k : Int) (w : World) (h : At w bp (ppC b0 b1 f0 f1)) (Q : Ending -> World -> Prop)
    (hno : ¬ is01 i -> Q (.returned (.tuple #[.string ⟨#[]⟩, .int .i64 2])) w) (hok : is01 i -> Calls Tryz.prog 158 #[.pointer (some ⟨pick01 b0 b1 i, 0, none⟩), .int .i64 k] w fun e w' => ∃ x y, e = .returned (.tuple #[x, y]) /\ Q (.returned (.tuple #[x, y])) w') :
    Calls Tryz.prog 118 #[.pointer (some ⟨bp, 0, none⟩), .int .i64 i, .int .i64 k] w Q := by
  by_cases c : is01 i
  · have U := Hid.mk' (pAt_yes bp b0 b1 f0 f1 i w h c)
    have OK := Hid.mk' (hok c)
    clear h hno hok c
    go_enter Tryz.func118, Tryz.ntmps118
    go_wp2_with fail
    refine Calls.mono U.out ?_
    rintro e w1 ⟨rfl, rfl⟩
    go_wp2_with fail
    refine Calls.mono OK.out ?_
    rintro e w2 ⟨x, y, rfl, q⟩
    go_wp2
    first | exact q | (go_ret; exact q) | (go_ret2; exact q)
  · have U := Hid.mk' (pAt_no bp i w c)
    have NO := Hid.mk' (hno c)
    clear h hno hok c
    go_enter Tryz.func118, Tryz.ntmps118
    go_wp2_with fail
    refine Calls.mono U.out ?_
    rintro e w1 ⟨rfl, rfl⟩
    go_wp2
    first | exact NO.out | (go_ret; exact NO.out) | (go_ret2; exact NO.out)
theorem eqNilT_none (W : World) : (binOp BinOp.eql 104 (.slice none 0 0) (.slice none 0 0)).run Tryz.prog W = .ok (.bool true) W := by
  kernel_rfl
theorem cloneT_nil (w : World) : Calls Tryz.prog 183 #[.slice none 0 0] w fun e w' => e = .returned (.slice none 0 0) /\ w' = w := by
  have e1 := eqNilT_none
  go_enter Tryz.func183, Tryz.ntmps183
  go_wp2
  go_ret
  exact ⟨rfl, rfl⟩
theorem all_nil (bp k : Nat) (w : World) (h : w.cell? ⟨bp, k, none⟩ = some (.slice none 0 0)) : Calls Tryz.prog 157 #[.pointer (some ⟨bp, k, none⟩)] w fun e w' => e = .returned (.slice none 0 0) /\ w' = w := by
  go_enter Tryz.func157, Tryz.ntmps157
  go_wp2_with fail
  refine Calls.mono (cloneT_nil _) ?_
  rintro e w1 ⟨rfl, rfl⟩
  go_wp2
  go_ret
  exact ⟨rfl, rfl⟩
theorem pFlight_nil (bp b0 b1 : Nat) (i : Int) (w : World) (h : At w bp (ppC b0 b1 (.slice none 0 0) (.slice none 0 0))) :
    Calls Tryz.prog 114 #[.pointer (some ⟨bp, 0, none⟩), .int .i64 i] w fun e w' => e = .returned (.tuple #[.slice none 0 0, .int .i64 (if is01 i then 0 else 2)]) /\ w' = w := by
  by_cases c : is01 i
  · rw [if_pos c]
    have U := Hid.mk' (pAt_yes bp b0 b1 _ _ i w h c)
    have c2 := h.c 2 _ rfl
    have c3 := h.c 3 _ rfl
    clear h
    have FT : Hid (Calls Tryz.prog 72 #[.pointer (some ⟨bp, 0, none⟩), .int .i64 i] w fun e w' => e = .returned (.tuple #[.pointer (some ⟨bp, pick01 2 3 i, none⟩), .int .i64 0]) /\ w' = w) := by
      show Calls _ _ _ _ _
      rcases c with rfl | rfl
      all_goals
        go_enter Tryz.func72, Tryz.ntmps72
        go_wp2_with fail
        refine Calls.mono U.out ?_
        rintro e w1 ⟨rfl, rfl⟩
        go_wp2
        go_ret2
        exact ⟨rfl, rfl⟩
    have AL : Hid (Calls Tryz.prog 157 #[.pointer (some ⟨bp, pick01 2 3 i, none⟩)] w fun e w' => e = .returned (.slice none 0 0) /\ w' = w) := all_nil bp (pick01 2 3 i) w (by rcases c with rfl | rfl; exact c2; exact c3)
    clear c c2 c3 U
    go_enter Tryz.func114, Tryz.ntmps114
    go_wp2_with fail
    refine Calls.mono FT.out ?_
    rintro e w1 ⟨rfl, rfl⟩
    go_wp2_with fail
    refine Calls.mono AL.out ?_
    rintro e w1 ⟨rfl, rfl⟩
    go_wp2
    go_ret2
    exact ⟨rfl, rfl⟩
  · rw [if_neg c]
    have U := Hid.mk' (pAt_no bp i w c)
    clear h c
    have FT : Hid (Calls Tryz.prog 72 #[.pointer (some ⟨bp, 0, none⟩), .int .i64 i] w fun e w' => e = .returned (.tuple #[.pointer none, .int .i64 2]) /\ w' = w) := by
      show Calls _ _ _ _ _
      go_enter Tryz.func72, Tryz.ntmps72
      go_wp2_with fail
      refine Calls.mono U.out ?_
      rintro e w1 ⟨rfl, rfl⟩
      go_wp2
      go_ret2
      exact ⟨rfl, rfl⟩
    clear U
    go_enter Tryz.func114, Tryz.ntmps114
    go_wp2_with fail
    refine Calls.mono FT.out ?_
    rintro e w1 ⟨rfl, rfl⟩
    go_wp2
    go_ret2
    exact ⟨rfl, rfl⟩
end Go.Proofs.YtammnaafdhhjaaaGreat
