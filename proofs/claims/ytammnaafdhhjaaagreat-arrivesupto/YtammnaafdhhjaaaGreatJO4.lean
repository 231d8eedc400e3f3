import Derived.BigQuiet
import Derived.Test.YtammnaafdhhjaaaGreatRows
import Derived.Test.YtammnaafdhhjaaaGreatJG7
import Derived.Test.YtammnaafdhhjaaaGreatJG27
set_option maxHeartbeats 16000000
set_option maxRecDepth 100000
namespace Go.Proofs.YtammnaafdhhjaaaGreat
open Go.RowKit
def kF (bk : Nat) (vk : Value) (D : Nat -> Prop) (j : Nat) : Prop := j = bk ∨ vk.ownBlock = some j ∨ D j
def KN (w w' : World) (bk bp : Nat) (vk : Value) (D : Nat -> Prop) (k : Kp) (p : Pr) : Prop :=
 ∃ vk' D', KX w' bk bp vk' D' k p /\ (∀ j, kF bk vk' D' j -> kF bk vk D j ∨ w.heap.size <= j) /\ Only w w' (kF bk vk D)
theorem OwnK.lt {B : Nat} {w : World} {v : Value} {l : List Kn} (h : OwnK B w v l) : ∀ j, v.ownBlock = some j -> j < w.heap.size := fun j hj => by
 rcases h.2 with ⟨h', _⟩ | ⟨g, cap, cur, h', h1, h2, _⟩
 ·rw [h'] at hj; cases hj
 ·rw [h'] at hj
  injection hj with hj
  subst hj
  exact (Array.getElem?_eq_some_iff.1 h2).1
section
variable {w w' : World} {bk bp : Nat} {vk : Value} {D : Nat -> Prop} {k : Kp} {p p' : Pr}
theorem KX.ltF (h : KX w bk bp vk D k p) {j : Nat} (hj : kF bk vk D j) : j < w.heap.size := by
 rcases hj with rfl | hj | hj
 ·exact h.at_.lt
 ·exact h.ow.lt j hj
 ·exact h.lt j hj
theorem KX.only {A : Nat -> Prop} (h : KX w bk bp vk D k p) (o : Only w w' A) (n : ∀ j, kF bk vk D j -> ¬ A j) : KX w' bk bp vk D k p :=
 ⟨h.at_.only o (n _ (.inl rfl)), o.own h.ow (fun j hj => n j (.inr (.inl hj))), h.pw.only o (fun j _ hj => n j (.inr (.inr hj))), fun j hj => Nat.lt_of_lt_of_le (h.lt j hj) o.size, h.nb, h.nv⟩
theorem KX.grown (h : KX w bk bp vk D k p) (g : w.grownBy w' none) : KX w' bk bp vk D k p := h.only (Only.grown g) (by simp)
theorem KX.same (h : KX w bk bp vk D k p) : KN w w bk bp vk D k p := ⟨vk, D, h, fun _ e => .inl e, Only.refl _ _⟩
theorem KX.grew (h : KX w bk bp vk D k p) (g : w.grownBy w' none) : KN w w' bk bp vk D k p := ⟨vk, D, h.grown g, fun _ e => .inl e, (Only.grown g).mono (by simp)⟩
theorem KX.turn (h : KX w bk bp vk D k p) (n : PN w w' bp D p') : KN w w' bk bp vk D k p' := by
 obtain ⟨n1, n2⟩ := n
 have z := n2.size
 refine ⟨vk, NX w w' D, ⟨h.at_.only n2 h.nb, n2.own h.ow (fun j hj => (h.nv j hj).1), n1.mono (fun j hj e => ⟨e, hj⟩), fun j hj => hj.2, fun e => ?_, fun j hj => ⟨fun e => ?_, (h.nv j hj).2⟩⟩, fun j hj => ?_, n2.mono (fun j _ e => .inr (.inr e))⟩
 ·rcases e.1 with e | e
  ·exact h.nb e
  ·have := h.at_.lt; omega
 ·rcases e.1 with e | e
  ·exact (h.nv j hj).1 e
  ·have := h.ow.lt j hj; omega
 ·rcases hj with hj | hj | hj
  ·exact .inl (.inl hj)
  ·exact .inl (.inr (.inl hj))
  ·rcases hj.1 with e | e
   ·exact .inl (.inr (.inr e))
   ·exact .inr e
theorem KN.grown {W : World} (g : w.grownBy W none) (h : KN W w' bk bp vk D k p) : KN w w' bk bp vk D k p := by
 obtain ⟨v, E, h1, h2, h3⟩ := h
 refine ⟨v, E, h1, fun j hj => ?_, ((Only.grown g).mono (by simp)).trans (h3.mono (fun _ _ e => .inl e))⟩
 rcases h2 j hj with e | e
 ·exact .inl e
 ·exact .inr (Nat.le_trans g.size e)
end
abbrev acV (K sh k m x y : Int) (pl sp : Nat) (t : ByteArray) : Value := .agg #[.int .i64 K, .int .i64 sh, .int .i64 k, .int .i64 m, .int .i64 x, .int .i64 y, .float .f32 pl, .float .f32 sp, .string t]
abbrev AK (K sh k m x y : Int) (pl sp : Nat) (t : ByteArray) : List Value := [.int .i64 K, .int .i64 sh, .int .i64 k, .int .i64 m, .int .i64 x, .int .i64 y, .float .f32 pl, .float .f32 sp, .string t]
theorem kact_tick (bk bp : Nat) (vk : Value) (D : Nat -> Prop) (kp : Kp) (p : Pr) (sh k m x y : Int) (pl sp : Nat) (t : ByteArray) (w : World) (h : KX w bk bp vk D kp p) (gd : PGd p) (hs : i64B sh) :
  Calls Tryz.prog 12 #[.pointer (some ⟨bk, 0, none⟩), acV 3 sh k m x y pl sp t] w fun e w' => e = .returned (.bool true) /\ KN w w' bk bp vk D kp (p.tick (pickN sh 2)).2 := by
 have H := Hid.mk' h
 have G0 := Hid.mk' (World.grownBy_alloc w (.cells #[.int .i64 3, .int .i64 sh, .int .i64 k, .int .i64 m, .int .i64 x, .int .i64 y, .float .f32 pl, .float .f32 sp, .string t] 35) none)
 have c0 := h.at_.c 0 _ rfl
 have hlt := h.at_.lt
 have CT := Hid.mk' fun W (g : w.grownBy W none) => tick_px (h.grown g).pw gd (pickN sh 2)
 have PK := Hid.mk' fun W => pickN_any sh 2 W hs (by omega) (by omega)
 clear h gd
 go_enter Tryz.func12, Tryz.ntmps12
 go_wp2_with fail
 refine Calls.mono (PK.out _) ?_
 rintro e w1 ⟨rfl, rfl⟩
 go_wp2_with fail
 refine Calls.mono (CT.out _ G0.out) ?_
 rintro e w1 ⟨rfl, n1⟩
 have N1 := Hid.mk' n1
 clear n1
 go_wp2
 go_ret
 exact ⟨rfl, KN.grown G0.out ((H.out.grown G0.out).turn N1.out)⟩
theorem kact_snap (bk bp : Nat) (vk : Value) (D : Nat -> Prop) (kp : Kp) (p : Pr) (sh k m x y : Int) (pl sp : Nat) (t : ByteArray) (w : World) (h : KX w bk bp vk D kp p) (gd : PGd p) (hs : i64B sh) :
  Calls Tryz.prog 12 #[.pointer (some ⟨bk, 0, none⟩), acV 4 sh k m x y pl sp t] w fun e w' => e = .returned (.bool true) /\ KN w w' bk bp vk D kp (p.snap (pickN sh 2)).2 := by
 have H := Hid.mk' h
 have G0 := Hid.mk' (World.grownBy_alloc w (.cells #[.int .i64 4, .int .i64 sh, .int .i64 k, .int .i64 m, .int .i64 x, .int .i64 y, .float .f32 pl, .float .f32 sp, .string t] 35) none)
 have c0 := h.at_.c 0 _ rfl
 have hlt := h.at_.lt
 have CT := Hid.mk' fun W (g : w.grownBy W none) => snap_px (h.grown g).pw gd (pickN sh 2)
 have PK := Hid.mk' fun W => pickN_any sh 2 W hs (by omega) (by omega)
 clear h gd
 go_enter Tryz.func12, Tryz.ntmps12
 go_wp2_with fail
 refine Calls.mono (PK.out _) ?_
 rintro e w1 ⟨rfl, rfl⟩
 go_wp2_with fail
 refine Calls.mono (CT.out _ G0.out) ?_
 rintro e w1 ⟨rfl, n1⟩
 have N1 := Hid.mk' n1
 clear n1
 go_wp2
 go_ret
 exact ⟨rfl, KN.grown G0.out ((H.out.grown G0.out).turn N1.out)⟩
theorem kact_restart (bk bp : Nat) (vk : Value) (D : Nat -> Prop) (kp : Kp) (p : Pr) (sh k m x y : Int) (pl sp : Nat) (t : ByteArray) (w : World) (h : KX w bk bp vk D kp p) (gd : PGd p) (hs : i64B sh) :
  Calls Tryz.prog 12 #[.pointer (some ⟨bk, 0, none⟩), acV 7 sh k m x y pl sp t] w fun e w' => e = .returned (.bool true) /\ KN w w' bk bp vk D kp (p.restart (pickN sh 2)).2 := by
 have H := Hid.mk' h
 have G0 := Hid.mk' (World.grownBy_alloc w (.cells #[.int .i64 7, .int .i64 sh, .int .i64 k, .int .i64 m, .int .i64 x, .int .i64 y, .float .f32 pl, .float .f32 sp, .string t] 35) none)
 have c0 := h.at_.c 0 _ rfl
 have hlt := h.at_.lt
 have CT := Hid.mk' fun W (g : w.grownBy W none) => restart_px (h.grown g).pw gd (pickN sh 2)
 have PK := Hid.mk' fun W => pickN_any sh 2 W hs (by omega) (by omega)
 clear h gd
 go_enter Tryz.func12, Tryz.ntmps12
 go_wp2_with fail
 refine Calls.mono (PK.out _) ?_
 rintro e w1 ⟨rfl, rfl⟩
 go_wp2_with fail
 refine Calls.mono (CT.out _ G0.out) ?_
 rintro e w1 ⟨rfl, n1⟩
 have N1 := Hid.mk' n1
 clear n1
 go_wp2
 go_ret
 exact ⟨rfl, KN.grown G0.out ((H.out.grown G0.out).turn N1.out)⟩
theorem kact_send (bk bp : Nat) (vk : Value) (D : Nat -> Prop) (kp : Kp) (p : Pr) (sh k m x y : Int) (pl sp : Nat) (t : ByteArray) (w : World) (h : KX w bk bp vk D kp p) (gd : PGd p) (hs : i64B sh) :
  Calls Tryz.prog 12 #[.pointer (some ⟨bk, 0, none⟩), acV 8 sh k m x y pl sp t] w fun e w' => e = .returned (.bool true) /\ KN w w' bk bp vk D kp (p.send (pickN sh 2)).2 := by
 have H := Hid.mk' h
 have G0 := Hid.mk' (World.grownBy_alloc w (.cells #[.int .i64 8, .int .i64 sh, .int .i64 k, .int .i64 m, .int .i64 x, .int .i64 y, .float .f32 pl, .float .f32 sp, .string t] 35) none)
 have c0 := h.at_.c 0 _ rfl
 have hlt := h.at_.lt
 have CT := Hid.mk' fun W (g : w.grownBy W none) => send_px (h.grown g).pw gd (pickN sh 2)
 have PK := Hid.mk' fun W => pickN_any sh 2 W hs (by omega) (by omega)
 clear h gd
 go_enter Tryz.func12, Tryz.ntmps12
 go_wp2_with fail
 refine Calls.mono (PK.out _) ?_
 rintro e w1 ⟨rfl, rfl⟩
 go_wp2_with fail
 refine Calls.mono (CT.out _ G0.out) ?_
 rintro e w1 ⟨rfl, n1⟩
 have N1 := Hid.mk' n1
 clear n1
 go_wp2
 go_ret
 exact ⟨rfl, KN.grown G0.out ((H.out.grown G0.out).turn N1.out)⟩
theorem kact_crash (bk bp : Nat) (vk : Value) (D : Nat -> Prop) (kp : Kp) (p : Pr) (sh k m x y : Int) (pl sp : Nat) (t : ByteArray) (w : World) (h : KX w bk bp vk D kp p) (hs : i64B sh) :
  Calls Tryz.prog 12 #[.pointer (some ⟨bk, 0, none⟩), acV 6 sh k m x y pl sp t] w fun e w' => e = .returned (.bool true) /\ KN w w' bk bp vk D kp (p.crash (pickN sh 2) m).2 := by
 have H := Hid.mk' h
 have G0 := Hid.mk' (World.grownBy_alloc w (.cells #[.int .i64 6, .int .i64 sh, .int .i64 k, .int .i64 m, .int .i64 x, .int .i64 y, .float .f32 pl, .float .f32 sp, .string t] 35) none)
 have c0 := h.at_.c 0 _ rfl
 have hlt := h.at_.lt
 have AX := Hid.mk' (At.new w [.int .i64 6, .int .i64 sh, .int .i64 k, .int .i64 m, .int .i64 x, .int .i64 y, .float .f32 pl, .float .f32 sp, .string t] 35)
 have A0 := Hid.mk' (h.at_.grown G0.out)
 have PK := Hid.mk' fun W => pickN_any sh 2 W hs (by omega) (by omega)
 have CT := Hid.mk' fun W (g : w.grownBy W none) => crash_px (h.grown g).pw (pickN sh 2) m
 clear h
 go_enter Tryz.func12, Tryz.ntmps12
 go_wp2_with fail
 refine Calls.mono (PK.out _) ?_
 rintro e w1 ⟨rfl, rfl⟩
 go_wp2_with fail
 refine wp_region_held_drew (S := fun w' => At w' bk (kpC bp vk kp) /\ At w' w.heap.size (AK 6 sh k m x y pl sp t)) (by kernel_rfl) (⟨A0.out.drew, AX.out.drew⟩) (fun hHeld => ?_)
 refine hTk 0 ?_
 simp only [lS0, lS1]
 refine hTk 1 ?_
 simp only [lS0, lS1]
 refine hTk 2 ?_
 simp only [lS0, lS1]
 refine hTy 3 rfl (by intro w hSw; have S0 := hSw.1.c 0 _ rfl; go_simp; try with_reducible rfl) ?_
 simp only [lS0, lS1]
 refine hTk 4 ?_
 simp only [lS0, lS1]
 refine hTk 5 ?_
 simp only [lS0, lS1]
 refine hTy 6 rfl (by intro w hSw; have S3 := hSw.2.c 3 _ rfl; go_simp; try with_reducible rfl) ?_
 simp only [lS0, lS1]
 refine hCall 7 (f := 18) (args := #[.pointer (some ⟨bp, 0, none⟩), .int .i64 (pickN sh 2), .int .i64 m]) (by kernel_rfl) (by rfl) (by rfl) (by go_simp) ?_
 refine Calls.mono (CT.out _ (grownBy_drew G0.out)) ?_
 rintro e w1 ⟨rfl, n1⟩
 have N1 := Hid.mk' n1
 clear n1
 refine ⟨_, rfl, ⟨hHeld.1.only N1.out.2 H.out.nb, hHeld.2.only N1.out.2 (fun e => Nat.lt_irrefl _ (H.out.lt _ e))⟩, ?_⟩
 simp only [lS0, lS1]
 refine wpAnyH_done (by kernel_rfl) ?_ _
 go_wp2
 go_ret
 exact ⟨rfl, KN.grown (grownBy_drew G0.out) ((H.out.grown (grownBy_drew G0.out)).turn N1.out)⟩
theorem kact_deliver (bk bp : Nat) (vk : Value) (D : Nat -> Prop) (kp : Kp) (p : Pr) (sh k m x y : Int) (pl sp : Nat) (t : ByteArray) (w : World) (h : KX w bk bp vk D kp p) (gd : PGd p) (hs : i64B sh) :
  Calls Tryz.prog 12 #[.pointer (some ⟨bk, 0, none⟩), acV 9 sh k m x y pl sp t] w fun e w' => e = .returned (.bool true) /\ KN w w' bk bp vk D kp (p.deliver (pickN sh 2) k).2 := by
 have H := Hid.mk' h
 have G0 := Hid.mk' (World.grownBy_alloc w (.cells #[.int .i64 9, .int .i64 sh, .int .i64 k, .int .i64 m, .int .i64 x, .int .i64 y, .float .f32 pl, .float .f32 sp, .string t] 35) none)
 have c0 := h.at_.c 0 _ rfl
 have hlt := h.at_.lt
 have AX := Hid.mk' (At.new w [.int .i64 9, .int .i64 sh, .int .i64 k, .int .i64 m, .int .i64 x, .int .i64 y, .float .f32 pl, .float .f32 sp, .string t] 35)
 have A0 := Hid.mk' (h.at_.grown G0.out)
 have PK := Hid.mk' fun W => pickN_any sh 2 W hs (by omega) (by omega)
 have CT := Hid.mk' fun W (g : w.grownBy W none) => deliver_px (h.grown g).pw gd (pickN sh 2) k
 clear h gd
 go_enter Tryz.func12, Tryz.ntmps12
 go_wp2_with fail
 refine Calls.mono (PK.out _) ?_
 rintro e w1 ⟨rfl, rfl⟩
 go_wp2_with fail
 refine wp_region_held_drew (S := fun w' => At w' bk (kpC bp vk kp) /\ At w' w.heap.size (AK 9 sh k m x y pl sp t)) (by kernel_rfl) (⟨A0.out.drew, AX.out.drew⟩) (fun hHeld => ?_)
 refine hTk 0 ?_
 simp only [lS0, lS1]
 refine hTk 1 ?_
 simp only [lS0, lS1]
 refine hTk 2 ?_
 simp only [lS0, lS1]
 refine hTy 3 rfl (by intro w hSw; have S0 := hSw.1.c 0 _ rfl; go_simp; try with_reducible rfl) ?_
 simp only [lS0, lS1]
 refine hTk 4 ?_
 simp only [lS0, lS1]
 refine hTk 5 ?_
 simp only [lS0, lS1]
 refine hTy 6 rfl (by intro w hSw; have S2 := hSw.2.c 2 _ rfl; go_simp; try with_reducible rfl) ?_
 simp only [lS0, lS1]
 refine hCall 7 (f := 30) (args := #[.pointer (some ⟨bp, 0, none⟩), .int .i64 (pickN sh 2), .int .i64 k]) (by kernel_rfl) (by rfl) (by rfl) (by go_simp) ?_
 refine Calls.mono (CT.out _ (grownBy_drew G0.out)) ?_
 rintro e w1 ⟨rfl, n1⟩
 have N1 := Hid.mk' n1
 clear n1
 refine ⟨_, rfl, ⟨hHeld.1.only N1.out.2 H.out.nb, hHeld.2.only N1.out.2 (fun e => Nat.lt_irrefl _ (H.out.lt _ e))⟩, ?_⟩
 simp only [lS0, lS1]
 refine wpAnyH_done (by kernel_rfl) ?_ _
 go_wp2
 go_ret
 exact ⟨rfl, KN.grown (grownBy_drew G0.out) ((H.out.grown (grownBy_drew G0.out)).turn N1.out)⟩
theorem kact_drop (bk bp : Nat) (vk : Value) (D : Nat -> Prop) (kp : Kp) (p : Pr) (sh k m x y : Int) (pl sp : Nat) (t : ByteArray) (w : World) (h : KX w bk bp vk D kp p) (hs : i64B sh) :
  Calls Tryz.prog 12 #[.pointer (some ⟨bk, 0, none⟩), acV 10 sh k m x y pl sp t] w fun e w' => e = .returned (.bool true) /\ KN w w' bk bp vk D kp (p.drop (pickN sh 2) k).2 := by
 have H := Hid.mk' h
 have G0 := Hid.mk' (World.grownBy_alloc w (.cells #[.int .i64 10, .int .i64 sh, .int .i64 k, .int .i64 m, .int .i64 x, .int .i64 y, .float .f32 pl, .float .f32 sp, .string t] 35) none)
 have c0 := h.at_.c 0 _ rfl
 have hlt := h.at_.lt
 have AX := Hid.mk' (At.new w [.int .i64 10, .int .i64 sh, .int .i64 k, .int .i64 m, .int .i64 x, .int .i64 y, .float .f32 pl, .float .f32 sp, .string t] 35)
 have A0 := Hid.mk' (h.at_.grown G0.out)
 have PK := Hid.mk' fun W => pickN_any sh 2 W hs (by omega) (by omega)
 have CT := Hid.mk' fun W (g : w.grownBy W none) => drop_px (h.grown g).pw (pickN sh 2) k
 clear h
 go_enter Tryz.func12, Tryz.ntmps12
 go_wp2_with fail
 refine Calls.mono (PK.out _) ?_
 rintro e w1 ⟨rfl, rfl⟩
 go_wp2_with fail
 refine wp_region_held_drew (S := fun w' => At w' bk (kpC bp vk kp) /\ At w' w.heap.size (AK 10 sh k m x y pl sp t)) (by kernel_rfl) (⟨A0.out.drew, AX.out.drew⟩) (fun hHeld => ?_)
 refine hTk 0 ?_
 simp only [lS0, lS1]
 refine hTk 1 ?_
 simp only [lS0, lS1]
 refine hTk 2 ?_
 simp only [lS0, lS1]
 refine hTy 3 rfl (by intro w hSw; have S0 := hSw.1.c 0 _ rfl; go_simp; try with_reducible rfl) ?_
 simp only [lS0, lS1]
 refine hTk 4 ?_
 simp only [lS0, lS1]
 refine hTk 5 ?_
 simp only [lS0, lS1]
 refine hTy 6 rfl (by intro w hSw; have S2 := hSw.2.c 2 _ rfl; go_simp; try with_reducible rfl) ?_
 simp only [lS0, lS1]
 refine hCall 7 (f := 35) (args := #[.pointer (some ⟨bp, 0, none⟩), .int .i64 (pickN sh 2), .int .i64 k]) (by kernel_rfl) (by rfl) (by rfl) (by go_simp) ?_
 refine Calls.mono (CT.out _ (grownBy_drew G0.out)) ?_
 rintro e w1 ⟨rfl, n1⟩
 have N1 := Hid.mk' n1
 clear n1
 refine ⟨_, rfl, ⟨hHeld.1.only N1.out.2 H.out.nb, hHeld.2.only N1.out.2 (fun e => Nat.lt_irrefl _ (H.out.lt _ e))⟩, ?_⟩
 simp only [lS0, lS1]
 refine wpAnyH_done (by kernel_rfl) ?_ _
 go_wp2
 go_ret
 exact ⟨rfl, KN.grown (grownBy_drew G0.out) ((H.out.grown (grownBy_drew G0.out)).turn N1.out)⟩
theorem kact_double (bk bp : Nat) (vk : Value) (D : Nat -> Prop) (kp : Kp) (p : Pr) (sh k m x y : Int) (pl sp : Nat) (t : ByteArray) (w : World) (h : KX w bk bp vk D kp p) (hs : i64B sh) :
  Calls Tryz.prog 12 #[.pointer (some ⟨bk, 0, none⟩), acV 11 sh k m x y pl sp t] w fun e w' => e = .returned (.bool true) /\ KN w w' bk bp vk D kp (p.double (pickN sh 2) k).2 := by
 have H := Hid.mk' h
 have G0 := Hid.mk' (World.grownBy_alloc w (.cells #[.int .i64 11, .int .i64 sh, .int .i64 k, .int .i64 m, .int .i64 x, .int .i64 y, .float .f32 pl, .float .f32 sp, .string t] 35) none)
 have c0 := h.at_.c 0 _ rfl
 have hlt := h.at_.lt
 have AX := Hid.mk' (At.new w [.int .i64 11, .int .i64 sh, .int .i64 k, .int .i64 m, .int .i64 x, .int .i64 y, .float .f32 pl, .float .f32 sp, .string t] 35)
 have A0 := Hid.mk' (h.at_.grown G0.out)
 have PK := Hid.mk' fun W => pickN_any sh 2 W hs (by omega) (by omega)
 have CT := Hid.mk' fun W (g : w.grownBy W none) => double_px (h.grown g).pw (pickN sh 2) k
 clear h
 go_enter Tryz.func12, Tryz.ntmps12
 go_wp2_with fail
 refine Calls.mono (PK.out _) ?_
 rintro e w1 ⟨rfl, rfl⟩
 go_wp2_with fail
 refine wp_region_held_drew (S := fun w' => At w' bk (kpC bp vk kp) /\ At w' w.heap.size (AK 11 sh k m x y pl sp t)) (by kernel_rfl) (⟨A0.out.drew, AX.out.drew⟩) (fun hHeld => ?_)
 refine hTk 0 ?_
 simp only [lS0, lS1]
 refine hTk 1 ?_
 simp only [lS0, lS1]
 refine hTk 2 ?_
 simp only [lS0, lS1]
 refine hTy 3 rfl (by intro w hSw; have S0 := hSw.1.c 0 _ rfl; go_simp; try with_reducible rfl) ?_
 simp only [lS0, lS1]
 refine hTk 4 ?_
 simp only [lS0, lS1]
 refine hTk 5 ?_
 simp only [lS0, lS1]
 refine hTy 6 rfl (by intro w hSw; have S2 := hSw.2.c 2 _ rfl; go_simp; try with_reducible rfl) ?_
 simp only [lS0, lS1]
 refine hCall 7 (f := 36) (args := #[.pointer (some ⟨bp, 0, none⟩), .int .i64 (pickN sh 2), .int .i64 k]) (by kernel_rfl) (by rfl) (by rfl) (by go_simp) ?_
 refine Calls.mono (CT.out _ (grownBy_drew G0.out)) ?_
 rintro e w1 ⟨rfl, n1⟩
 have N1 := Hid.mk' n1
 clear n1
 refine ⟨_, rfl, ⟨hHeld.1.only N1.out.2 H.out.nb, hHeld.2.only N1.out.2 (fun e => Nat.lt_irrefl _ (H.out.lt _ e))⟩, ?_⟩
 simp only [lS0, lS1]
 refine wpAnyH_done (by kernel_rfl) ?_ _
 go_wp2
 go_ret
 exact ⟨rfl, KN.grown (grownBy_drew G0.out) ((H.out.grown (grownBy_drew G0.out)).turn N1.out)⟩
theorem kact_spoil (bk bp : Nat) (vk : Value) (D : Nat -> Prop) (kp : Kp) (p : Pr) (sh k m x y : Int) (pl sp : Nat) (t : ByteArray) (w : World) (h : KX w bk bp vk D kp p) (hs : i64B sh) :
  Calls Tryz.prog 12 #[.pointer (some ⟨bk, 0, none⟩), acV 12 sh k m x y pl sp t] w fun e w' => e = .returned (.bool true) /\ KN w w' bk bp vk D kp (p.spoil (pickN sh 2) k m).2 := by
 have H := Hid.mk' h
 have G0 := Hid.mk' (World.grownBy_alloc w (.cells #[.int .i64 12, .int .i64 sh, .int .i64 k, .int .i64 m, .int .i64 x, .int .i64 y, .float .f32 pl, .float .f32 sp, .string t] 35) none)
 have c0 := h.at_.c 0 _ rfl
 have hlt := h.at_.lt
 have AX := Hid.mk' (At.new w [.int .i64 12, .int .i64 sh, .int .i64 k, .int .i64 m, .int .i64 x, .int .i64 y, .float .f32 pl, .float .f32 sp, .string t] 35)
 have A0 := Hid.mk' (h.at_.grown G0.out)
 have PK := Hid.mk' fun W => pickN_any sh 2 W hs (by omega) (by omega)
 have CT := Hid.mk' fun W (g : w.grownBy W none) => spoil_px (h.grown g).pw (pickN sh 2) k m
 clear h
 go_enter Tryz.func12, Tryz.ntmps12
 go_wp2_with fail
 refine Calls.mono (PK.out _) ?_
 rintro e w1 ⟨rfl, rfl⟩
 go_wp2_with fail
 refine wp_region_held_drew (S := fun w' => At w' bk (kpC bp vk kp) /\ At w' w.heap.size (AK 12 sh k m x y pl sp t)) (by kernel_rfl) (⟨A0.out.drew, AX.out.drew⟩) (fun hHeld => ?_)
 refine hTk 0 ?_
 simp only [lS0, lS1]
 refine hTk 1 ?_
 simp only [lS0, lS1]
 refine hTk 2 ?_
 simp only [lS0, lS1]
 refine hTy 3 rfl (by intro w hSw; have S0 := hSw.1.c 0 _ rfl; go_simp; try with_reducible rfl) ?_
 simp only [lS0, lS1]
 refine hTk 4 ?_
 simp only [lS0, lS1]
 refine hTk 5 ?_
 simp only [lS0, lS1]
 refine hTy 6 rfl (by intro w hSw; have S2 := hSw.2.c 2 _ rfl; go_simp; try with_reducible rfl) ?_
 simp only [lS0, lS1]
 refine hTk 7 ?_
 simp only [lS0, lS1]
 refine hTy 8 rfl (by intro w hSw; have S3 := hSw.2.c 3 _ rfl; go_simp; try with_reducible rfl) ?_
 simp only [lS0, lS1]
 refine hCall 9 (f := 37) (args := #[.pointer (some ⟨bp, 0, none⟩), .int .i64 (pickN sh 2), .int .i64 k, .int .i64 m]) (by kernel_rfl) (by rfl) (by rfl) (by go_simp) ?_
 refine Calls.mono (CT.out _ (grownBy_drew G0.out)) ?_
 rintro e w1 ⟨rfl, n1⟩
 have N1 := Hid.mk' n1
 clear n1
 refine ⟨_, rfl, ⟨hHeld.1.only N1.out.2 H.out.nb, hHeld.2.only N1.out.2 (fun e => Nat.lt_irrefl _ (H.out.lt _ e))⟩, ?_⟩
 simp only [lS0, lS1]
 refine wpAnyH_done (by kernel_rfl) ?_ _
 go_wp2
 go_ret
 exact ⟨rfl, KN.grown (grownBy_drew G0.out) ((H.out.grown (grownBy_drew G0.out)).turn N1.out)⟩
theorem kact_brk (bk bp : Nat) (vk : Value) (D : Nat -> Prop) (kp : Kp) (p : Pr) (sh k m x y : Int) (pl sp : Nat) (t : ByteArray) (w : World) (h : KX w bk bp vk D kp p) (hs : i64B sh) (hk : i64B k) :
  Calls Tryz.prog 12 #[.pointer (some ⟨bk, 0, none⟩), acV 5 sh k m x y pl sp t] w fun e w' => e = .returned (.bool true) /\ KN w w' bk bp vk D kp (p.brk (pickN sh 2) (pickN k 8) m).2 := by
 have H := Hid.mk' h
 have G0 := Hid.mk' (World.grownBy_alloc w (.cells #[.int .i64 5, .int .i64 sh, .int .i64 k, .int .i64 m, .int .i64 x, .int .i64 y, .float .f32 pl, .float .f32 sp, .string t] 35) none)
 have c0 := h.at_.c 0 _ rfl
 have hlt := h.at_.lt
 have AX := Hid.mk' (At.new w [.int .i64 5, .int .i64 sh, .int .i64 k, .int .i64 m, .int .i64 x, .int .i64 y, .float .f32 pl, .float .f32 sp, .string t] 35)
 have A0 := Hid.mk' (h.at_.grown G0.out)
 have PK := Hid.mk' fun W => pickN_any sh 2 W hs (by omega) (by omega)
 have P8 := Hid.mk' fun W => pickN_any k 8 W hk (by omega) (by omega)
 have CT := Hid.mk' fun W (g : w.grownBy W none) => break_px (h.grown g).pw (pickN sh 2) (pickN k 8) m (by have := pickN_lt k 8 (by omega); omega)
 clear h
 go_enter Tryz.func12, Tryz.ntmps12
 go_wp2_with fail
 refine Calls.mono (PK.out _) ?_
 rintro e w1 ⟨rfl, rfl⟩
 go_wp2_with fail
 refine wp_region_held_drew (S := fun w' => At w' bk (kpC bp vk kp) /\ At w' w.heap.size (AK 5 sh k m x y pl sp t)) (by kernel_rfl) (⟨A0.out.drew, AX.out.drew⟩) (fun hHeld => ?_)
 refine hTk 0 ?_
 simp only [lS0, lS1]
 refine hTk 1 ?_
 simp only [lS0, lS1]
 refine hTk 2 ?_
 simp only [lS0, lS1]
 refine hTy 3 rfl (by intro w hSw; have S0 := hSw.1.c 0 _ rfl; go_simp; try with_reducible rfl) ?_
 simp only [lS0, lS1]
 refine hTk 4 ?_
 simp only [lS0, lS1]
 refine hTk 5 ?_
 simp only [lS0, lS1]
 refine hTy 6 rfl (by intro w hSw; have S2 := hSw.2.c 2 _ rfl; go_simp; try with_reducible rfl) ?_
 simp only [lS0, lS1]
 refine hTk 8 ?_
 simp only [lS0, lS1]
 refine hTy 9 rfl (by intro w hSw; have S3 := hSw.2.c 3 _ rfl; go_simp; try with_reducible rfl) ?_
 simp only [lS0, lS1]
 refine hCall 7 (f := 13) (args := #[.int .i64 k, .int .i64 8]) (by kernel_rfl) (by rfl) (by rfl) (by go_simp) ?_
 refine Calls.mono (P8.out _) ?_
 rintro e w7 ⟨rfl, rfl⟩
 refine ⟨_, rfl, hHeld, ?_⟩
 simp only [lS0, lS1]
 refine hCall 10 (f := 27) (args := #[.pointer (some ⟨bp, 0, none⟩), .int .i64 (pickN sh 2), .int .i64 (pickN k 8), .int .i64 m]) (by kernel_rfl) (by rfl) (by rfl) (by go_simp) ?_
 refine Calls.mono (CT.out _ (grownBy_drew G0.out)) ?_
 rintro e w1 ⟨rfl, n1⟩
 have N1 := Hid.mk' n1
 clear n1
 refine ⟨_, rfl, ⟨hHeld.1.only N1.out.2 H.out.nb, hHeld.2.only N1.out.2 (fun e => Nat.lt_irrefl _ (H.out.lt _ e))⟩, ?_⟩
 simp only [lS0, lS1]
 refine wpAnyH_done (by kernel_rfl) ?_ _
 go_wp2
 go_ret
 exact ⟨rfl, KN.grown (grownBy_drew G0.out) ((H.out.grown (grownBy_drew G0.out)).turn N1.out)⟩
theorem kact_none (bk bp : Nat) (vk : Value) (D : Nat -> Prop) (kp : Kp) (p : Pr) (K sh k m x y : Int) (pl sp : Nat) (t : ByteArray) (w : World) (h : KX w bk bp vk D kp p) (hs : i64B sh) (hK : K <= 0 ∨ 13 <= K) :
  Calls Tryz.prog 12 #[.pointer (some ⟨bk, 0, none⟩), acV K sh k m x y pl sp t] w fun e w' => e = .returned (.bool true) /\ KN w w' bk bp vk D kp p := by
 have H := Hid.mk' h
 have G0 := Hid.mk' (World.grownBy_alloc w (.cells #[.int .i64 K, .int .i64 sh, .int .i64 k, .int .i64 m, .int .i64 x, .int .i64 y, .float .f32 pl, .float .f32 sp, .string t] 35) none)
 have PK := Hid.mk' fun W => pickN_any sh 2 W hs (by omega) (by omega)
 have e1 : (K == 1) = false := by simp; omega
 have e2 : (K == 2) = false := by simp; omega
 have e3 : (K == 3) = false := by simp; omega
 have e4 : (K == 4) = false := by simp; omega
 have e5 : (K == 5) = false := by simp; omega
 have e6 : (K == 6) = false := by simp; omega
 have e7 : (K == 7) = false := by simp; omega
 have e8 : (K == 8) = false := by simp; omega
 have e9 : (K == 9) = false := by simp; omega
 have e10 : (K == 10) = false := by simp; omega
 have e11 : (K == 11) = false := by simp; omega
 have e12 : (K == 12) = false := by simp; omega
 clear h hK
 go_enter Tryz.func12, Tryz.ntmps12
 go_wp2_with fail
 refine Calls.mono (PK.out _) ?_
 rintro e w1 ⟨rfl, rfl⟩
 go_wp2
 go_ret
 exact ⟨rfl, H.out.grew G0.out⟩
theorem op_appKn {w : World} {o : Oper} {a : Act} {K : Act -> World -> Prop} {Q : Exit -> Act -> World -> Prop} (s x : Operand)
  (ho : o.op = .call { callee := .builtin .append, args := #[s, x], argTypes := #[41, 41] })
  (B : Nat) (v : Value) (l : List Kn) (hs : a.eval s = v) (hown : OwnK B w v l) (ad : Addr) (i : Kn) (hx : a.eval x = .slice (some ad) 1 1)
  (hnews : ∀ j u, i.cells[j]? = some u -> w.cell? (ad.add j) = some u) (hl : l.length + 1 <= 3000000) (hB : B <= w.heap.size)
  (h : ∀ v' w', OwnK B w' v' (l ++ [i]) -> w.grownBy w' v.ownBlock -> (v'.ownBlock = v.ownBlock ∨ v'.ownBlock = some w.heap.size) -> K (a.put o.dst v') w') : Oper.wp Tryz.prog o a w K Q := by
 obtain ⟨i0, hi, hz0, hz1, hz2⟩ := infoKnown
 obtain ⟨v', w', hr, h2, h3, _, h5⟩ := run_append_own_at (P := Tryz.prog) w B 41 o.type 77 i0 _ 3 24 Tryz.underlying41 hi hz0 hz1 hz2 rfl (by decide) v l.length (l.flatMap Kn.cells) hown ad 1 1 i.cells rfl hnews
  (by intro u hu; simp [Kn.cells] at hu; rcases hu with rfl | rfl | rfl <;> rfl) (by unfold maxLen; omega) (by omega) hB
 unfold Oper.wp execOp
 simp only [ho, resolve, invoke, builtin, Sem.run_bind, Sem.run_pure, Result.andThen_ok, List.map_toArray, List.map_cons, List.map_nil, hs, hx, hr]
 refine h v' w' ?_ h3 h5
 unfold OwnK; rw [List.length_append, List.flatMap_append]; simpa using h2
def KS (bk : Nat) (w w' : World) (vk : Value) (D : Nat -> Prop) (vk' : Value) (D' : Nat -> Prop) : Prop := (∀ j, kF bk vk' D' j -> kF bk vk D j ∨ w.heap.size <= j) /\ Only w w' (kF bk vk D)
section
variable {w w' w1 w2 : World} {bk bp : Nat} {vk v1 v2 : Value} {D D1 D2 : Nat -> Prop} {k k' : Kp} {p p' : Pr}
theorem KS.trans (h : KS bk w w1 vk D v1 D1) (h' : KS bk w1 w2 v1 D1 v2 D2) : KS bk w w2 vk D v2 D2 := by
 refine ⟨fun j hj => ?_, h.2.trans (h'.2.mono (fun j _ e => h.1 j e))⟩
 rcases h'.1 j hj with e | e
 ·exact h.1 j e
 ·exact .inr (Nat.le_trans h.2.size e)
theorem KS.grown (g : w.grownBy w' none) : KS bk w w' vk D vk D := ⟨fun _ e => .inl e, (Only.grown g).mono (by simp)⟩
theorem KS.kn (h : KS bk w w' vk D v1 D1) (hx : KX w' bk bp v1 D1 k p) : KN w w' bk bp vk D k p := ⟨v1, D1, hx, h.1, h.2⟩
theorem KX.turnX (h : KX w bk bp vk D k p) (n : PN w w' bp D p') : KX w' bk bp vk (NX w w' D) k p' /\ KS bk w w' vk D vk (NX w w' D) := by
 obtain ⟨n1, n2⟩ := n
 have z := n2.size
 refine ⟨⟨h.at_.only n2 h.nb, n2.own h.ow (fun j hj => (h.nv j hj).1), n1.mono (fun j hj e => ⟨e, hj⟩), fun j hj => hj.2, fun e => ?_, fun j hj => ⟨fun e => ?_, (h.nv j hj).2⟩⟩, fun j hj => ?_, n2.mono (fun j _ e => .inr (.inr e))⟩
 ·rcases e.1 with e | e
  ·exact h.nb e
  ·have := h.at_.lt; omega
 ·rcases e.1 with e | e
  ·exact (h.nv j hj).1 e
  ·have := h.ow.lt j hj; omega
 ·rcases hj with hj | hj | hj
  ·exact .inl (.inl hj)
  ·exact .inl (.inr (.inl hj))
  ·rcases hj.1 with e | e
   ·exact .inl (.inr (.inr e))
   ·exact .inr e
theorem KX.putX (h : KX w bk bp vk D k p) (c : Nat) (u : Value) (hc : c < 14) (e : kpC bp vk k' = (kpC bp vk k).set c u) (ek : k'.kn = k.kn) : KX (w.setCell ⟨bk, c, none⟩ u) bk bp vk D k' p /\ KS bk w (w.setCell ⟨bk, c, none⟩ u) vk D vk D := by
 have o := Only.set w bk c u
 refine ⟨⟨?_, ?_, h.pw.only o (fun j _ hj e => h.nb (e ▸ hj)), fun j hj => Nat.lt_of_lt_of_le (h.lt j hj) o.size, h.nb, h.nv⟩, fun _ e => .inl e, o.mono (fun j _ e => .inl e)⟩
 ·rw [e]; exact h.at_.put c u hc
 ·rw [ek]; exact o.own h.ow (fun j hj => (h.nv j hj).2)
theorem KX.appX {l : List Kn} (h : KX w bk bp vk D k p) (ow : OwnK 0 w1 v1 l) (g : w.grownBy w1 vk.ownBlock) (hv : v1.ownBlock = vk.ownBlock ∨ v1.ownBlock = some w.heap.size) : KX (w1.setCell ⟨bk, 1, none⟩ v1) bk bp v1 D { k with kn := l } p /\ KS bk w (w1.setCell ⟨bk, 1, none⟩ v1) vk D v1 D := by
 have og := Only.grown g
 have o := Only.set w1 bk 1 v1
 have nv : ∀ j, v1.ownBlock = some j -> ¬ D j /\ j ≠ bk := fun j hj => by
  rcases hv with e | e
  ·exact h.nv j (e ▸ hj)
  ·rw [hj] at e
   injection e with e
   subst e
   exact ⟨fun e => Nat.lt_irrefl _ (h.lt _ e), fun e => by have := h.at_.lt; omega⟩
 have oo : Only w (w1.setCell ⟨bk, 1, none⟩ v1) (fun j => j = bk ∨ vk.ownBlock = some j) := (og.mono (fun j _ e => .inr e)).trans (o.mono (fun j _ e => .inl (.inl e)))
 refine ⟨⟨(h.at_.only og (fun e => (h.nv bk e).2 rfl)).put 1 v1 (by show 1 < 14; omega), o.own ow (fun j hj => (nv j hj).2), h.pw.only oo (fun j _ hj e => ?_), fun j hj => Nat.lt_of_lt_of_le (h.lt j hj) oo.size, h.nb, nv⟩, fun j hj => ?_, oo.mono (fun j _ e => ?_)⟩
 ·rcases e with e | e
  ·exact h.nb (e ▸ hj)
  ·exact (h.nv j e).1 hj
 ·rcases hj with hj | hj | hj
  ·exact .inl (.inl hj)
  ·rcases hv with e | e
   ·exact .inl (.inr (.inl (e ▸ hj)))
   ·rw [hj] at e
    injection e with e
    exact .inr (by omega)
  ·exact .inl (.inr (.inr hj))
 ·rcases e with e | e
  ·exact .inl e
  ·exact .inr (.inl e)
end
def KM (w w' : World) (bk bp : Nat) (vk : Value) (D : Nat -> Prop) (vk' : Value) (k : Kp) (p : Pr) : Prop := ∃ E, KX w' bk bp vk' E k p /\ KS bk w w' vk D vk' E
theorem KX.kn1 {w w' : World} {bk bp : Nat} {vk v1 : Value} {D E : Nat -> Prop} {k : Kp} {p : Pr} (h : KX w' bk bp v1 E k p) (s : KS bk w w' vk D v1 E) : KM w w' bk bp vk D v1 k p := ⟨E, h, s⟩
section
variable {w w1 w2 : World} {bk bp : Nat} {vk v1 v2 : Value} {D : Nat -> Prop} {k k' : Kp} {p : Pr}
theorem KM.kn (h : KM w w1 bk bp vk D v1 k p) : KN w w1 bk bp vk D k p := by
 obtain ⟨E, hx, hs⟩ := h
 exact hs.kn hx
theorem KM.grown (h : KM w w1 bk bp vk D v1 k p) (g : w1.grownBy w2 none) : KM w w2 bk bp vk D v1 k p := by
 obtain ⟨E, hx, hs⟩ := h
 exact ⟨E, hx.grown g, hs.trans (KS.grown g)⟩
theorem KM.at_ (h : KM w w1 bk bp vk D v1 k p) : At w1 bk (kpC bp v1 k) := by
 obtain ⟨E, hx, hs⟩ := h
 exact hx.at_
theorem KM.nb (h : KM w w1 bk bp vk D v1 k p) : v1.ownBlock ≠ some bk := by
 obtain ⟨E, hx, hs⟩ := h
 exact fun e => (hx.nv bk e).2 rfl
theorem KM.ow (h : KM w w1 bk bp vk D v1 k p) : OwnK 0 w1 v1 k.kn := by
 obtain ⟨E, hx, hs⟩ := h
 exact hx.ow
def KMb (w w' : World) (bk bp : Nat) (vk : Value) (D : Nat -> Prop) (vk' : Value) (k : Kp) (p : Pr) (bi : Nat) : Prop := ∃ E, KX w' bk bp vk' E k p /\ KS bk w w' vk D vk' E /\ ¬ kF bk vk' E bi /\ w.heap.size <= bi
theorem KM.new {bi : Nat} (h : KM w w1 bk bp vk D v1 k p) (g : w1.grownBy w2 none) (hb : w1.heap.size <= bi) : KMb w w2 bk bp vk D v1 k p bi := by
 obtain ⟨E, hx, hs⟩ := h
 exact ⟨E, hx.grown g, hs.trans (KS.grown g), fun e => Nat.lt_irrefl _ (Nat.lt_of_lt_of_le (hx.ltF e) hb), Nat.le_trans hs.2.size hb⟩
theorem KMb.away {bi : Nat} (h : KMb w w1 bk bp vk D v1 k p bi) (o : Only w1 w2 (fun j => j = bi)) : KM w w2 bk bp vk D v1 k p := by
 obtain ⟨E, hx, hs, hn, hb⟩ := h
 exact ⟨E, hx.only o (fun j hj e => hn (e ▸ hj)), hs.1, hs.2.trans (o.mono (fun j _ e => .inr (e ▸ hb)))⟩
theorem KX.turnB {bi : Nat} {p' : Pr} (h : KX w bk bp vk D k p) (g : w.grownBy w1 none) (n : PN w1 w2 bp D p') (h1 : w.heap.size <= bi) (h2 : bi < w1.heap.size) : KMb w w2 bk bp vk D vk k p' bi := by
 obtain ⟨a, b⟩ := (h.grown g).turnX n
 refine ⟨_, a, (KS.grown g).trans b, fun e => ?_, h1⟩
 rcases e with e | e | e
 ·have := h.at_.lt; omega
 ·have := h.ow.lt _ e; omega
 ·rcases e.1 with e | e
  ·have := h.lt _ e; omega
  ·omega
theorem KM.put (h : KM w w1 bk bp vk D v1 k p) (c : Nat) (u : Value) (hc : c < 14) (e : kpC bp v1 k' = (kpC bp v1 k).set c u) (ek : k'.kn = k.kn) : KM w (w1.setCell ⟨bk, c, none⟩ u) bk bp vk D v1 k' p := by
 obtain ⟨E, hx, hs⟩ := h
 obtain ⟨a, b⟩ := hx.putX c u hc e ek
 exact ⟨E, a, hs.trans b⟩
theorem KM.app {l : List Kn} {w3 : World} (h : KM w w1 bk bp vk D v1 k p) (ow : OwnK 0 w3 v2 l) (g : w1.grownBy w3 v1.ownBlock) (hv : v2.ownBlock = v1.ownBlock ∨ v2.ownBlock = some w1.heap.size) : KM w (w3.setCell ⟨bk, 1, none⟩ v2) bk bp vk D v2 { k with kn := l } p := by
 obtain ⟨E, hx, hs⟩ := h
 obtain ⟨a, b⟩ := hx.appX ow g hv
 exact ⟨E, a, hs.trans b⟩
end
theorem op_box2 {w : World} {o : Oper} {a : Act} {K : Act -> World -> Prop} {Q : Exit -> Act -> World -> Prop} (d : Nat) (ho : o.op = .alloc 32) (hd : o.dst = some d)
  (h : ∀ bi w', At w' bi [.int .i64 0, .int .i64 0] -> w.grownBy w' none -> w.heap.size <= bi -> K (a.put o.dst (.pointer (some ⟨bi, 0, none⟩))) w') : Oper.wp Tryz.prog o a w K Q := by
 have h' := h w.heap.size (w.alloc (.cells #[.int .i64 0, .int .i64 0] 32)) (At.new w [.int .i64 0, .int .i64 0] 32) (World.grownBy_alloc w _ none) (Nat.le_refl _)
 cases o
 simp only at ho hd
 subst ho hd
 go_simp
 simpa [Act.put] using h'
theorem op_put2 {w : World} {o : Oper} {a : Act} {K : Act -> World -> Prop} {Q : Exit -> Act -> World -> Prop} (bi : Nat) (x y : Int) (s v : Operand) (ho : o.op = .store 32 s v) (hd : o.dst = none) (hs : a.eval s = .pointer (some ⟨bi, 0, none⟩)) (hv : a.eval v = .agg #[.int .i64 x, .int .i64 y]) (ha : At w bi [.int .i64 0, .int .i64 0])
  (h : ∀ w', At w' bi [.int .i64 x, .int .i64 y] -> Only w w' (fun j => j = bi) -> K a w') : Oper.wp Tryz.prog o a w K Q := by
 have h' := h ((w.setCell ⟨bi, 0, none⟩ (.int .i64 x)).setCell ⟨bi, 1, none⟩ (.int .i64 y)) ((ha.put 0 (.int .i64 x) (by simp)).put 1 (.int .i64 y) (by simp)) (Only.set2 w bi 0 1 _ _)
 have c0 := ha.c 0 _ rfl
 have c1 := ha.c 1 _ rfl
 have hf := ha.f
 cases o
 simp only at ho hd
 subst ho hd
 unfold Oper.wp execOp
 simp only [hs, hv]
 go_simp
 simpa [Act.put] using h'
def Kp.doubt (k : Kp) (i : Int) : Kp := if i = 0 then { k with d0 := true } else { k with d1 := true }
def Kp.add (k : Kp) (x y : Int) : Kp := { k with kn := k.kn ++ [⟨x, y, 1⟩] }
def Kp.minted (k : Kp) (i up x y e : Int) : Bool × Kp :=
 if ¬ up = 0 then (decide (up = 3) && decide (e = 3), k)
 else if e = 3 then (true, k.doubt i)
 else if ¬ e = 0 then (decide (e = 6) || decide (e = 5), k)
 else if ¬ x = i ∨ 0 <= findK k.kn x y then (false, k)
 else (true, k.add x y)
theorem minted_any (bk bp : Nat) (vk : Value) (D : Nat -> Prop) (kp : Kp) (p : Pr) (i K sh k m x y : Int) (pl sp : Nat) (t : ByteArray) (w : World) (h : KX w bk bp vk D kp p) (gd : PGd p) (hi : is01 i) (hp : pl < 4294967296) (hq : sp < 4294967296) (hl : kp.kn.length + 1 <= 3000000) :
  Calls Tryz.prog 32 #[.pointer (some ⟨bk, 0, none⟩), .int .i64 i, acV K sh k m x y pl sp t] w fun e w' =>
   e = .returned (.bool (kp.minted i (p.upE i) (p.mint i (sideF pl i) (speedF sp)).1.1 (p.mint i (sideF pl i) (speedF sp)).1.2.1 (p.mint i (sideF pl i) (speedF sp)).1.2.2).1) /\ KN w w' bk bp vk D (kp.minted i (p.upE i) (p.mint i (sideF pl i) (speedF sp)).1.1 (p.mint i (sideF pl i) (speedF sp)).1.2.1 (p.mint i (sideF pl i) (speedF sp)).1.2.2).2 (p.mint i (sideF pl i) (speedF sp)).2 := by
 have H := Hid.mk' h
 have G0 := Hid.mk' (World.grownBy_alloc w (.cells #[.int .i64 K, .int .i64 sh, .int .i64 k, .int .i64 m, .int .i64 x, .int .i64 y, .float .f32 pl, .float .f32 sp, .string t] 35) none)
 have AX := Hid.mk' (At.new w [.int .i64 K, .int .i64 sh, .int .i64 k, .int .i64 m, .int .i64 x, .int .i64 y, .float .f32 pl, .float .f32 sp, .string t] 35)
 have c0 := h.at_.c 0 _ rfl
 have hlt := h.at_.lt
 have CM := Hid.mk' fun W (g : w.grownBy W none) => marks_px (h.grown g).pw i
 have CT := Hid.mk' fun W (g : w.grownBy W none) => mint_px (h.grown g).pw gd i (sideF pl i) (speedF sp) (sideF_lt hp i) (speedF_ok hq).2
 generalize p.mint i (sideF pl i) (speedF sp) = R at CT ⊢
 generalize p.marks i = M at CM
 generalize p.upE i = U at CM ⊢
 obtain ⟨⟨x1, y1, e1⟩, p1⟩ := R
 dsimp only at CT ⊢
 have CS := Hid.mk' fun W => sideF_any pl i W hp
 have CV := Hid.mk' fun W => speed_any sp W
 have hsf := run_store_float
 clear h gd
 unfold mkV at CM
 go_enter Tryz.func32, Tryz.ntmps32
 go_wp2_with fail
 refine Calls.mono (CM.out _ G0.out) ?_
 rintro e w1 ⟨rfl, g1⟩
 have G1 := Hid.mk' (G0.out.trans g1)
 have A1 := Hid.mk' (AX.out.grown g1)
 have G2 := Hid.mk' (G1.out.trans (World.grownBy_alloc w1 (.cells #[.int .i64 M.g, .int .i64 M.m, .int .i64 M.s, .int .i64 M.a, .int .i64 M.n] 44) none))
 have A2 := Hid.mk' (A1.out.grown (World.grownBy_alloc w1 (.cells #[.int .i64 M.g, .int .i64 M.m, .int .i64 M.s, .int .i64 M.a, .int .i64 M.n] 44) none))
 clear g1
 go_wp2_with fail
 refine wp_region_held_drew (S := fun w' => At w' bk (kpC bp vk kp) /\ At w' w.heap.size (AK K sh k m x y pl sp t)) (by kernel_rfl) (⟨(H.out.at_.grown G2.out).drew, A2.out.drew⟩) (fun hHeld => ?_)
 have GB := Hid.mk' (grownBy_drew G2.out)
 refine hTk 0 ?_
 simp only [lS0, lS1]
 refine hTk 1 ?_
 simp only [lS0, lS1]
 refine hTk 2 ?_
 simp only [lS0, lS1]
 refine hTy 3 rfl (by intro w hSw; have S0 := hSw.1.c 0 _ rfl; go_simp; try with_reducible rfl) ?_
 simp only [lS0, lS1]
 refine hTk 4 ?_
 simp only [lS0, lS1]
 refine hTk 5 ?_
 simp only [lS0, lS1]
 refine hTy 6 rfl (by intro w hSw; have S6 := hSw.2.c 6 _ rfl; go_simp; try with_reducible rfl) ?_
 simp only [lS0, lS1]
 refine hTk 7 ?_
 simp only [lS0, lS1]
 refine hTk 9 ?_
 simp only [lS0, lS1]
 refine hTy 10 rfl (by intro w hSw; have S7 := hSw.2.c 7 _ rfl; go_simp; try with_reducible rfl) ?_
 simp only [lS0, lS1]
 refine hTwo 8 16 (by kernel_rfl) ?_ ?_
 ·refine hCallAt 8 (f := 78) (args := #[.float .f32 pl, .int .i64 i]) (by rfl) (by rfl) (by go_simp) ?_
  refine Calls.mono (CS.out _) ?_
  rintro e w8 ⟨rfl, rfl⟩
  refine ⟨_, rfl, hHeld, ?_⟩
  simp only [lS0, lS1]
  refine hTwo 11 16 (by kernel_rfl) ?_ ?_
  ·refine hCallAt 11 (f := 79) (args := #[.float .f32 sp]) (by rfl) (by rfl) (by go_simp) ?_
   refine Calls.mono (CV.out _) ?_
   rintro e w11 ⟨rfl, rfl⟩
   refine ⟨_, rfl, hHeld, ?_⟩
   simp only [lS0, lS1]
   refine hTwo 12 16 (by kernel_rfl) ?_ ?_
   ·refine hCallAt 12 (f := 46) (args := #[.pointer (some ⟨bp, 0, none⟩), .int .i64 i, .float .f32 (sideF pl i), .float .f32 (speedF sp)]) (by rfl) (by rfl) (by go_simp) ?_
    refine Calls.mono (CT.out _ GB.out) ?_
    rintro e w2 ⟨rfl, n1⟩
    have X1 := Hid.mk' ((H.out.grown GB.out).turnX n1)
    have h2 : At w2 bk (kpC bp vk kp) /\ At w2 w.heap.size (AK K sh k m x y pl sp t) := ⟨X1.out.1.at_, hHeld.2.only n1.2 (fun e => Nat.lt_irrefl _ (H.out.lt _ e))⟩
    have X2 := Hid.mk' (KX.kn1 X1.out.1 ((KS.grown GB.out).trans X1.out.2))
    clear n1 hHeld
    have hHeld := h2
    clear h2
    refine ⟨_, rfl, hHeld, ?_⟩
    simp only [lS0, lS1]
    refine hTk 13 ?_
    simp only [lS0, lS1]
    refine hTk 14 ?_
    simp only [lS0, lS1]
    refine hTk 15 ?_
    simp only [lS0, lS1]
    refine hRun 16 (by kernel_rfl) (by rfl) (by rfl) ?_
    intro K' hK
    refine op_box2 9 rfl rfl ?_
    intro bi w9 a9 g9 b9
    have hH := hHeld
    clear hHeld
    have LB : Hid (w.heap.size < bi) := Hid.mk' (Nat.lt_of_lt_of_le hH.2.lt b9)
    have hHeld : At w9 bk (kpC bp vk kp) /\ At w9 w.heap.size (AK K sh k m x y pl sp t) := ⟨hH.1.grown g9, hH.2.grown g9⟩
    clear hH
    refine hK _ _ hHeld ?_
    clear hK K'
    have X3 := Hid.mk' (X2.out.new g9 b9)
    have AI := Hid.mk' a9
    clear X2 g9 a9 b9
    have X2 := X3
    clear X3
    simp only [Act.put, List.setIfInBounds_toArray, lS0, lS1]
    refine hRun 17 (by kernel_rfl) (by rfl) (by rfl) ?_
    intro K' hK
    refine op_put2 bi x1 y1 (.tmp 9) (.tmp 34) rfl rfl rfl rfl AI.out ?_
    intro w6 a6 o6
    have hH : At w6 bk (kpC bp vk kp) /\ At w6 w.heap.size (AK K sh k m x y pl sp t) := ⟨hHeld.1.only o6 (fun e => by have := LB.out; omega), hHeld.2.only o6 (fun e => by have := LB.out; omega)⟩
    clear hHeld
    have hHeld := hH
    clear hH
    refine hK _ _ hHeld ?_
    clear hK K'
    refine hTk 18 ?_
    simp only [lS0, lS1]
    have X6 := Hid.mk' (X2.out.away o6)
    have A6 := Hid.mk' a6
    clear a6 o6 hHeld X2 X1 AI
    refine wpAnyH_done (by kernel_rfl) ?_ _
    by_cases hU : U = 0
    ·subst hU
     by_cases h3 : e1 = 3
     ·subst h3
      have E : Hid (kp.minted i 0 x1 y1 3 = (true, kp.doubt i)) := Hid.mk' <| rfl
      have hf := X6.out.at_.f
      have c2 := X6.out.at_.c 2 _ rfl
      have c3 := X6.out.at_.c 3 _ rfl
      rcases hi with rfl | rfl
      ·go_wp2
       go_ret
       rw [E.out]
       exact ⟨rfl, (X6.out.put (k' := kp.doubt 0) 2 (.bool true) (by omega) rfl rfl).kn⟩
      ·go_wp2
       go_ret
       rw [E.out]
       exact ⟨rfl, (X6.out.put (k' := kp.doubt 1) 3 (.bool true) (by omega) rfl rfl).kn⟩
     ·have b3 : (e1 == 3) = false := by simpa using h3
      by_cases h0 : e1 = 0
      ·subst h0
       have i0 := A6.out.c 0 _ rfl
       have i1 := A6.out.c 1 _ rfl
       by_cases hx : x1 = i
       ·subst hx
        have FK := Hid.mk' (findK_any kp.kn x1 y1 bk vk w6 (X6.out.at_.c 1 _ rfl) X6.out.ow (by omega))
        go_wp2_with fail
        refine Calls.mono FK.out ?_
        rintro e w7 ⟨rfl, g7⟩
        have X7 := Hid.mk' (X6.out.grown g7)
        have A7 := Hid.mk' (A6.out.grown g7)
        clear g7
        by_cases hF : 0 <= findK kp.kn x1 y1
        ·have E : Hid (kp.minted x1 0 x1 y1 0 = (false, kp)) := Hid.mk' <| by simp [Kp.minted, hF]
         go_wp2
         go_ret
         rw [E.out]
         exact ⟨rfl, X7.out.kn⟩
        ·have E : Hid (kp.minted x1 0 x1 y1 0 = (true, kp.add x1 y1)) := Hid.mk' <| by simp [Kp.minted, hF]
         go_wp2_with fail
         refine wp_region_held_drew (S := fun w' => At w' bi [.int .i64 x1, .int .i64 y1]) (by kernel_rfl) (A7.out.drew) (fun hHeld => ?_)
         refine hTk 0 ?_
         simp only [lS0, lS1]
         refine hTk 1 ?_
         simp only [lS0, lS1]
         refine hTk 2 ?_
         simp only [lS0, lS1]
         refine hTk 3 ?_
         simp only [lS0, lS1]
         refine hTy 5 rfl (by intro w hSw; have S0 := hSw.c 0 _ rfl; have S1 := hSw.c 1 _ rfl; go_simp; try with_reducible rfl) ?_
         simp only [lS0, lS1]
         refine hTk 6 ?_
         simp only [lS0, lS1]
         have X8 := Hid.mk' (X7.out.grown (grownBy_drew (World.grownBy_alloc w7 (.cells #[.int .i64 x1, .int .i64 y1, .int .i64 1] 77) none)))
         have C8 : Hid (∀ j u, (Kn.cells ⟨x1, y1, 1⟩)[j]? = some u -> (w7.alloc (.cells #[.int .i64 x1, .int .i64 y1, .int .i64 1] 77)).drew.cell? ((⟨w7.heap.size, 0, none⟩ : Addr).add j) = some u) := Hid.mk' fun j u hu => (grownBy_drew (grownBy_refl _ none)).cell (cells_new w7 [.int .i64 x1, .int .i64 y1, .int .i64 1] _ _ rfl j u hu) (by simp)
         refine hTwo 4 7 (by kernel_rfl) ?_ ?_
         ·refine hRunAt 4 (by rfl) (by rfl) ?_
          intro K' hK
          have c1 := X7.out.at_.drew.c 1 _ rfl
          go_simp
          refine hK _ _ hHeld ?_
          clear hK K' c1
          refine hRun 7 (by kernel_rfl) (by rfl) (by rfl) ?_
          intro K' hK
          go_simp
          have hA := (hHeld.grown (grownBy_refl _ _))
          refine hK _ _ ((A7.out.alloc _).drew) ?_
          clear hK K' hA hHeld
          have hHeld : At (w7.alloc (.cells #[.int .i64 x1, .int .i64 y1, .int .i64 1] 77)).drew bi [.int .i64 x1, .int .i64 y1] := (A7.out.alloc _).drew
          refine hRun 8 (by kernel_rfl) (by rfl) (by rfl) ?_
          intro K' hK
          refine op_appKn (.tmp 77) (.tmp 80) rfl 0 vk kp.kn rfl X8.out.ow ⟨w7.heap.size, 0, none⟩ ⟨x1, y1, 1⟩ rfl C8.out hl (Nat.zero_le _) ?_
          intro v8 w8 o8 g8 h8
          obtain ⟨a8, c8, rfl⟩ := slice_len o8
          obtain ⟨n8, hn8⟩ : ∃ n, (kp.kn ++ [(⟨x1, y1, 1⟩ : Kn)]).length = n := ⟨_, rfl⟩
          rw [hn8] at o8 h8 ⊢
          have hB : At w8 bi [.int .i64 x1, .int .i64 y1] := hHeld.only (Only.grown g8) (fun e => by have := H.out.ow.lt _ e; have := LB.out; omega)
          clear hHeld
          have hHeld := hB
          clear hB
          refine hK _ _ hHeld ?_
          clear hK K'
          have A8 := X8.out.at_.only (Only.grown g8) X8.out.nb
          have X9 := Hid.mk' (X8.out.app o8 g8 h8)
          have ck := A8.c 1 _ rfl
          have hf8 := A8.f
          clear o8 g8 h8 A8
          simp only [Act.put, List.setIfInBounds_toArray, lS0, lS1]
          refine hTk 9 ?_
          simp only [lS0, lS1]
          refine hTk 10 ?_
          simp only [lS0, lS1]
          refine hRun 11 (by kernel_rfl) (by rfl) (by rfl) ?_
          intro K' hK
          go_simp
          refine hK _ _ (hHeld.only (Only.set w8 bk 1 _) (fun e => by have := LB.out; omega)) ?_
          clear hK K'
          refine wpAnyH_done (by kernel_rfl) ?_ _
          go_wp2
          go_ret
          rw [E.out]
          exact ⟨rfl, X9.out.kn⟩
         ·refine hRunAt 7 (by rfl) (by rfl) ?_
          intro K' hK
          go_simp
          have hA := (hHeld.grown (grownBy_refl _ _))
          refine hK _ _ ((A7.out.alloc _).drew) ?_
          clear hK K' hA hHeld
          have hHeld : At (w7.alloc (.cells #[.int .i64 x1, .int .i64 y1, .int .i64 1] 77)).drew bi [.int .i64 x1, .int .i64 y1] := (A7.out.alloc _).drew
          refine hRun 4 (by kernel_rfl) (by rfl) (by rfl) ?_
          intro K' hK
          have c1 := X8.out.at_.c 1 _ rfl
          go_simp
          refine hK _ _ hHeld ?_
          clear hK K' c1
          refine hRun 8 (by kernel_rfl) (by rfl) (by rfl) ?_
          intro K' hK
          refine op_appKn (.tmp 77) (.tmp 80) rfl 0 vk kp.kn rfl X8.out.ow ⟨w7.heap.size, 0, none⟩ ⟨x1, y1, 1⟩ rfl C8.out hl (Nat.zero_le _) ?_
          intro v8 w8 o8 g8 h8
          obtain ⟨a8, c8, rfl⟩ := slice_len o8
          obtain ⟨n8, hn8⟩ : ∃ n, (kp.kn ++ [(⟨x1, y1, 1⟩ : Kn)]).length = n := ⟨_, rfl⟩
          rw [hn8] at o8 h8 ⊢
          have hB : At w8 bi [.int .i64 x1, .int .i64 y1] := hHeld.only (Only.grown g8) (fun e => by have := H.out.ow.lt _ e; have := LB.out; omega)
          clear hHeld
          have hHeld := hB
          clear hB
          refine hK _ _ hHeld ?_
          clear hK K'
          have A8 := X8.out.at_.only (Only.grown g8) X8.out.nb
          have X9 := Hid.mk' (X8.out.app o8 g8 h8)
          have ck := A8.c 1 _ rfl
          have hf8 := A8.f
          clear o8 g8 h8 A8
          simp only [Act.put, List.setIfInBounds_toArray, lS0, lS1]
          refine hTk 9 ?_
          simp only [lS0, lS1]
          refine hTk 10 ?_
          simp only [lS0, lS1]
          refine hRun 11 (by kernel_rfl) (by rfl) (by rfl) ?_
          intro K' hK
          go_simp
          refine hK _ _ (hHeld.only (Only.set w8 bk 1 _) (fun e => by have := LB.out; omega)) ?_
          clear hK K'
          refine wpAnyH_done (by kernel_rfl) ?_ _
          go_wp2
          go_ret
          rw [E.out]
          exact ⟨rfl, X9.out.kn⟩
       ·have E : Hid (kp.minted i 0 x1 y1 0 = (false, kp)) := Hid.mk' <| by simp [Kp.minted, hx]
        have hxb : (x1 == i) = false := by simpa using hx
        go_wp2
        go_ret
        rw [E.out]
        exact ⟨rfl, X6.out.kn⟩
      ·have E : Hid (kp.minted i 0 x1 y1 e1 = (decide (e1 = 6) || decide (e1 = 5), kp)) := Hid.mk' <| by simp [Kp.minted, h3, h0]
       have b0 : (e1 == 0) = false := by simpa using h0
       by_cases h6 : e1 = 6
       ·subst h6
        go_wp2
        go_ret
        rw [E.out]
        exact ⟨rfl, X6.out.kn⟩
       ·have b6 : (e1 == 6) = false := by simpa using h6
        by_cases h5 : e1 = 5
        ·subst h5
         go_wp2
         go_ret
         rw [E.out]
         exact ⟨rfl, X6.out.kn⟩
        ·have b5 : (e1 == 5) = false := by simpa using h5
         go_wp2
         go_ret
         rw [E.out]
         exact ⟨by simp [h5, h6], X6.out.kn⟩
    ·have E : Hid (kp.minted i U x1 y1 e1 = (decide (U = 3) && decide (e1 = 3), kp)) := Hid.mk' <| if_pos hU
     have bU : (U == 0) = false := by simpa using hU
     by_cases u3 : U = 3
     ·subst u3
      by_cases h3 : e1 = 3
      ·subst h3
       go_wp2
       go_ret
       rw [E.out]
       exact ⟨rfl, X6.out.kn⟩
      ·have b3 : (e1 == 3) = false := by simpa using h3
       go_wp2
       go_ret
       rw [E.out]
       exact ⟨by simp [h3], X6.out.kn⟩
     ·have b3 : (U == 3) = false := by simpa using u3
      go_wp2
      go_ret
      rw [E.out]
      exact ⟨by simp [u3], X6.out.kn⟩
   ·refine hRunAt 16 (by rfl) (by rfl) ?_
    intro K' hK
    refine op_box2 9 rfl rfl ?_
    intro bi w9 a9 g9 b9
    have hH := hHeld
    clear hHeld
    have LB : Hid (w.heap.size < bi) := Hid.mk' (Nat.lt_of_lt_of_le hH.2.lt b9)
    have hHeld : At w9 bk (kpC bp vk kp) /\ At w9 w.heap.size (AK K sh k m x y pl sp t) := ⟨hH.1.grown g9, hH.2.grown g9⟩
    clear hH
    refine hK _ _ hHeld ?_
    clear hK K'
    have BI : Hid (w.heap.size < bi /\ At w9 bi [.int .i64 0, .int .i64 0]) := Hid.mk' ⟨LB.out, a9⟩
    have GC := Hid.mk' (GB.out.trans g9)
    clear GB g9 a9 b9
    have GB := GC
    clear GC
    simp only [Act.put, List.setIfInBounds_toArray, lS0, lS1]
    refine hCall 12 (f := 46) (args := #[.pointer (some ⟨bp, 0, none⟩), .int .i64 i, .float .f32 (sideF pl i), .float .f32 (speedF sp)]) (by kernel_rfl) (by rfl) (by rfl) (by go_simp) ?_
    refine Calls.mono (CT.out _ GB.out) ?_
    rintro e w2 ⟨rfl, n1⟩
    have X1 := Hid.mk' ((H.out.grown GB.out).turnX n1)
    have h2 : At w2 bk (kpC bp vk kp) /\ At w2 w.heap.size (AK K sh k m x y pl sp t) := ⟨X1.out.1.at_, hHeld.2.only n1.2 (fun e => Nat.lt_irrefl _ (H.out.lt _ e))⟩
    have X2 := Hid.mk' (H.out.turnB GB.out n1 (Nat.le_of_lt BI.out.1) BI.out.2.lt)
    have AI := Hid.mk' (BI.out.2.only n1.2 (fun e => Nat.lt_irrefl _ (Nat.lt_trans (H.out.lt _ e) BI.out.1)))
    clear n1 hHeld
    have hHeld := h2
    clear h2
    refine ⟨_, rfl, hHeld, ?_⟩
    simp only [lS0, lS1]
    refine hTk 13 ?_
    simp only [lS0, lS1]
    refine hTk 14 ?_
    simp only [lS0, lS1]
    refine hTk 15 ?_
    simp only [lS0, lS1]
    refine hRun 17 (by kernel_rfl) (by rfl) (by rfl) ?_
    intro K' hK
    refine op_put2 bi x1 y1 (.tmp 9) (.tmp 34) rfl rfl rfl rfl AI.out ?_
    intro w6 a6 o6
    have hH : At w6 bk (kpC bp vk kp) /\ At w6 w.heap.size (AK K sh k m x y pl sp t) := ⟨hHeld.1.only o6 (fun e => by have := LB.out; omega), hHeld.2.only o6 (fun e => by have := LB.out; omega)⟩
    clear hHeld
    have hHeld := hH
    clear hH
    refine hK _ _ hHeld ?_
    clear hK K'
    refine hTk 18 ?_
    simp only [lS0, lS1]
    have X6 := Hid.mk' (X2.out.away o6)
    have A6 := Hid.mk' a6
    clear a6 o6 hHeld X2 X1 AI
    refine wpAnyH_done (by kernel_rfl) ?_ _
    by_cases hU : U = 0
    ·subst hU
     by_cases h3 : e1 = 3
     ·subst h3
      have E : Hid (kp.minted i 0 x1 y1 3 = (true, kp.doubt i)) := Hid.mk' <| rfl
      have hf := X6.out.at_.f
      have c2 := X6.out.at_.c 2 _ rfl
      have c3 := X6.out.at_.c 3 _ rfl
      rcases hi with rfl | rfl
      ·go_wp2
       go_ret
       rw [E.out]
       exact ⟨rfl, (X6.out.put (k' := kp.doubt 0) 2 (.bool true) (by omega) rfl rfl).kn⟩
      ·go_wp2
       go_ret
       rw [E.out]
       exact ⟨rfl, (X6.out.put (k' := kp.doubt 1) 3 (.bool true) (by omega) rfl rfl).kn⟩
     ·have b3 : (e1 == 3) = false := by simpa using h3
      by_cases h0 : e1 = 0
      ·subst h0
       have i0 := A6.out.c 0 _ rfl
       have i1 := A6.out.c 1 _ rfl
       by_cases hx : x1 = i
       ·subst hx
        have FK := Hid.mk' (findK_any kp.kn x1 y1 bk vk w6 (X6.out.at_.c 1 _ rfl) X6.out.ow (by omega))
        go_wp2_with fail
        refine Calls.mono FK.out ?_
        rintro e w7 ⟨rfl, g7⟩
        have X7 := Hid.mk' (X6.out.grown g7)
        have A7 := Hid.mk' (A6.out.grown g7)
        clear g7
        by_cases hF : 0 <= findK kp.kn x1 y1
        ·have E : Hid (kp.minted x1 0 x1 y1 0 = (false, kp)) := Hid.mk' <| by simp [Kp.minted, hF]
         go_wp2
         go_ret
         rw [E.out]
         exact ⟨rfl, X7.out.kn⟩
        ·have E : Hid (kp.minted x1 0 x1 y1 0 = (true, kp.add x1 y1)) := Hid.mk' <| by simp [Kp.minted, hF]
         go_wp2_with fail
         refine wp_region_held_drew (S := fun w' => At w' bi [.int .i64 x1, .int .i64 y1]) (by kernel_rfl) (A7.out.drew) (fun hHeld => ?_)
         refine hTk 0 ?_
         simp only [lS0, lS1]
         refine hTk 1 ?_
         simp only [lS0, lS1]
         refine hTk 2 ?_
         simp only [lS0, lS1]
         refine hTk 3 ?_
         simp only [lS0, lS1]
         refine hTy 5 rfl (by intro w hSw; have S0 := hSw.c 0 _ rfl; have S1 := hSw.c 1 _ rfl; go_simp; try with_reducible rfl) ?_
         simp only [lS0, lS1]
         refine hTk 6 ?_
         simp only [lS0, lS1]
         have X8 := Hid.mk' (X7.out.grown (grownBy_drew (World.grownBy_alloc w7 (.cells #[.int .i64 x1, .int .i64 y1, .int .i64 1] 77) none)))
         have C8 : Hid (∀ j u, (Kn.cells ⟨x1, y1, 1⟩)[j]? = some u -> (w7.alloc (.cells #[.int .i64 x1, .int .i64 y1, .int .i64 1] 77)).drew.cell? ((⟨w7.heap.size, 0, none⟩ : Addr).add j) = some u) := Hid.mk' fun j u hu => (grownBy_drew (grownBy_refl _ none)).cell (cells_new w7 [.int .i64 x1, .int .i64 y1, .int .i64 1] _ _ rfl j u hu) (by simp)
         refine hTwo 4 7 (by kernel_rfl) ?_ ?_
         ·refine hRunAt 4 (by rfl) (by rfl) ?_
          intro K' hK
          have c1 := X7.out.at_.drew.c 1 _ rfl
          go_simp
          refine hK _ _ hHeld ?_
          clear hK K' c1
          refine hRun 7 (by kernel_rfl) (by rfl) (by rfl) ?_
          intro K' hK
          go_simp
          have hA := (hHeld.grown (grownBy_refl _ _))
          refine hK _ _ ((A7.out.alloc _).drew) ?_
          clear hK K' hA hHeld
          have hHeld : At (w7.alloc (.cells #[.int .i64 x1, .int .i64 y1, .int .i64 1] 77)).drew bi [.int .i64 x1, .int .i64 y1] := (A7.out.alloc _).drew
          refine hRun 8 (by kernel_rfl) (by rfl) (by rfl) ?_
          intro K' hK
          refine op_appKn (.tmp 77) (.tmp 80) rfl 0 vk kp.kn rfl X8.out.ow ⟨w7.heap.size, 0, none⟩ ⟨x1, y1, 1⟩ rfl C8.out hl (Nat.zero_le _) ?_
          intro v8 w8 o8 g8 h8
          obtain ⟨a8, c8, rfl⟩ := slice_len o8
          obtain ⟨n8, hn8⟩ : ∃ n, (kp.kn ++ [(⟨x1, y1, 1⟩ : Kn)]).length = n := ⟨_, rfl⟩
          rw [hn8] at o8 h8 ⊢
          have hB : At w8 bi [.int .i64 x1, .int .i64 y1] := hHeld.only (Only.grown g8) (fun e => by have := H.out.ow.lt _ e; have := LB.out; omega)
          clear hHeld
          have hHeld := hB
          clear hB
          refine hK _ _ hHeld ?_
          clear hK K'
          have A8 := X8.out.at_.only (Only.grown g8) X8.out.nb
          have X9 := Hid.mk' (X8.out.app o8 g8 h8)
          have ck := A8.c 1 _ rfl
          have hf8 := A8.f
          clear o8 g8 h8 A8
          simp only [Act.put, List.setIfInBounds_toArray, lS0, lS1]
          refine hTk 9 ?_
          simp only [lS0, lS1]
          refine hTk 10 ?_
          simp only [lS0, lS1]
          refine hRun 11 (by kernel_rfl) (by rfl) (by rfl) ?_
          intro K' hK
          go_simp
          refine hK _ _ (hHeld.only (Only.set w8 bk 1 _) (fun e => by have := LB.out; omega)) ?_
          clear hK K'
          refine wpAnyH_done (by kernel_rfl) ?_ _
          go_wp2
          go_ret
          rw [E.out]
          exact ⟨rfl, X9.out.kn⟩
         ·refine hRunAt 7 (by rfl) (by rfl) ?_
          intro K' hK
          go_simp
          have hA := (hHeld.grown (grownBy_refl _ _))
          refine hK _ _ ((A7.out.alloc _).drew) ?_
          clear hK K' hA hHeld
          have hHeld : At (w7.alloc (.cells #[.int .i64 x1, .int .i64 y1, .int .i64 1] 77)).drew bi [.int .i64 x1, .int .i64 y1] := (A7.out.alloc _).drew
          refine hRun 4 (by kernel_rfl) (by rfl) (by rfl) ?_
          intro K' hK
          have c1 := X8.out.at_.c 1 _ rfl
          go_simp
          refine hK _ _ hHeld ?_
          clear hK K' c1
          refine hRun 8 (by kernel_rfl) (by rfl) (by rfl) ?_
          intro K' hK
          refine op_appKn (.tmp 77) (.tmp 80) rfl 0 vk kp.kn rfl X8.out.ow ⟨w7.heap.size, 0, none⟩ ⟨x1, y1, 1⟩ rfl C8.out hl (Nat.zero_le _) ?_
          intro v8 w8 o8 g8 h8
          obtain ⟨a8, c8, rfl⟩ := slice_len o8
          obtain ⟨n8, hn8⟩ : ∃ n, (kp.kn ++ [(⟨x1, y1, 1⟩ : Kn)]).length = n := ⟨_, rfl⟩
          rw [hn8] at o8 h8 ⊢
          have hB : At w8 bi [.int .i64 x1, .int .i64 y1] := hHeld.only (Only.grown g8) (fun e => by have := H.out.ow.lt _ e; have := LB.out; omega)
          clear hHeld
          have hHeld := hB
          clear hB
          refine hK _ _ hHeld ?_
          clear hK K'
          have A8 := X8.out.at_.only (Only.grown g8) X8.out.nb
          have X9 := Hid.mk' (X8.out.app o8 g8 h8)
          have ck := A8.c 1 _ rfl
          have hf8 := A8.f
          clear o8 g8 h8 A8
          simp only [Act.put, List.setIfInBounds_toArray, lS0, lS1]
          refine hTk 9 ?_
          simp only [lS0, lS1]
          refine hTk 10 ?_
          simp only [lS0, lS1]
          refine hRun 11 (by kernel_rfl) (by rfl) (by rfl) ?_
          intro K' hK
          go_simp
          refine hK _ _ (hHeld.only (Only.set w8 bk 1 _) (fun e => by have := LB.out; omega)) ?_
          clear hK K'
          refine wpAnyH_done (by kernel_rfl) ?_ _
          go_wp2
          go_ret
          rw [E.out]
          exact ⟨rfl, X9.out.kn⟩
       ·have E : Hid (kp.minted i 0 x1 y1 0 = (false, kp)) := Hid.mk' <| by simp [Kp.minted, hx]
        have hxb : (x1 == i) = false := by simpa using hx
        go_wp2
        go_ret
        rw [E.out]
        exact ⟨rfl, X6.out.kn⟩
      ·have E : Hid (kp.minted i 0 x1 y1 e1 = (decide (e1 = 6) || decide (e1 = 5), kp)) := Hid.mk' <| by simp [Kp.minted, h3, h0]
       have b0 : (e1 == 0) = false := by simpa using h0
       by_cases h6 : e1 = 6
       ·subst h6
        go_wp2
        go_ret
        rw [E.out]
        exact ⟨rfl, X6.out.kn⟩
       ·have b6 : (e1 == 6) = false := by simpa using h6
        by_cases h5 : e1 = 5
        ·subst h5
         go_wp2
         go_ret
         rw [E.out]
         exact ⟨rfl, X6.out.kn⟩
        ·have b5 : (e1 == 5) = false := by simpa using h5
         go_wp2
         go_ret
         rw [E.out]
         exact ⟨by simp [h5, h6], X6.out.kn⟩
    ·have E : Hid (kp.minted i U x1 y1 e1 = (decide (U = 3) && decide (e1 = 3), kp)) := Hid.mk' <| if_pos hU
     have bU : (U == 0) = false := by simpa using hU
     by_cases u3 : U = 3
     ·subst u3
      by_cases h3 : e1 = 3
      ·subst h3
       go_wp2
       go_ret
       rw [E.out]
       exact ⟨rfl, X6.out.kn⟩
      ·have b3 : (e1 == 3) = false := by simpa using h3
       go_wp2
       go_ret
       rw [E.out]
       exact ⟨by simp [h3], X6.out.kn⟩
     ·have b3 : (U == 3) = false := by simpa using u3
      go_wp2
      go_ret
      rw [E.out]
      exact ⟨by simp [u3], X6.out.kn⟩
  ·refine hRunAt 16 (by rfl) (by rfl) ?_
   intro K' hK
   refine op_box2 9 rfl rfl ?_
   intro bi w9 a9 g9 b9
   have hH := hHeld
   clear hHeld
   have LB : Hid (w.heap.size < bi) := Hid.mk' (Nat.lt_of_lt_of_le hH.2.lt b9)
   have hHeld : At w9 bk (kpC bp vk kp) /\ At w9 w.heap.size (AK K sh k m x y pl sp t) := ⟨hH.1.grown g9, hH.2.grown g9⟩
   clear hH
   refine hK _ _ hHeld ?_
   clear hK K'
   have BI : Hid (w.heap.size < bi /\ At w9 bi [.int .i64 0, .int .i64 0]) := Hid.mk' ⟨LB.out, a9⟩
   have GC := Hid.mk' (GB.out.trans g9)
   clear GB g9 a9 b9
   have GB := GC
   clear GC
   simp only [Act.put, List.setIfInBounds_toArray, lS0, lS1]
   refine hCall 11 (f := 79) (args := #[.float .f32 sp]) (by kernel_rfl) (by rfl) (by rfl) (by go_simp) ?_
   refine Calls.mono (CV.out _) ?_
   rintro e w11 ⟨rfl, rfl⟩
   refine ⟨_, rfl, hHeld, ?_⟩
   simp only [lS0, lS1]
   refine hCall 12 (f := 46) (args := #[.pointer (some ⟨bp, 0, none⟩), .int .i64 i, .float .f32 (sideF pl i), .float .f32 (speedF sp)]) (by kernel_rfl) (by rfl) (by rfl) (by go_simp) ?_
   refine Calls.mono (CT.out _ GB.out) ?_
   rintro e w2 ⟨rfl, n1⟩
   have X1 := Hid.mk' ((H.out.grown GB.out).turnX n1)
   have h2 : At w2 bk (kpC bp vk kp) /\ At w2 w.heap.size (AK K sh k m x y pl sp t) := ⟨X1.out.1.at_, hHeld.2.only n1.2 (fun e => Nat.lt_irrefl _ (H.out.lt _ e))⟩
   have X2 := Hid.mk' (H.out.turnB GB.out n1 (Nat.le_of_lt BI.out.1) BI.out.2.lt)
   have AI := Hid.mk' (BI.out.2.only n1.2 (fun e => Nat.lt_irrefl _ (Nat.lt_trans (H.out.lt _ e) BI.out.1)))
   clear n1 hHeld
   have hHeld := h2
   clear h2
   refine ⟨_, rfl, hHeld, ?_⟩
   simp only [lS0, lS1]
   refine hTk 13 ?_
   simp only [lS0, lS1]
   refine hTk 14 ?_
   simp only [lS0, lS1]
   refine hTk 15 ?_
   simp only [lS0, lS1]
   refine hRun 17 (by kernel_rfl) (by rfl) (by rfl) ?_
   intro K' hK
   refine op_put2 bi x1 y1 (.tmp 9) (.tmp 34) rfl rfl rfl rfl AI.out ?_
   intro w6 a6 o6
   have hH : At w6 bk (kpC bp vk kp) /\ At w6 w.heap.size (AK K sh k m x y pl sp t) := ⟨hHeld.1.only o6 (fun e => by have := LB.out; omega), hHeld.2.only o6 (fun e => by have := LB.out; omega)⟩
   clear hHeld
   have hHeld := hH
   clear hH
   refine hK _ _ hHeld ?_
   clear hK K'
   refine hTk 18 ?_
   simp only [lS0, lS1]
   have X6 := Hid.mk' (X2.out.away o6)
   have A6 := Hid.mk' a6
   clear a6 o6 hHeld X2 X1 AI
   refine wpAnyH_done (by kernel_rfl) ?_ _
   by_cases hU : U = 0
   ·subst hU
    by_cases h3 : e1 = 3
    ·subst h3
     have E : Hid (kp.minted i 0 x1 y1 3 = (true, kp.doubt i)) := Hid.mk' <| rfl
     have hf := X6.out.at_.f
     have c2 := X6.out.at_.c 2 _ rfl
     have c3 := X6.out.at_.c 3 _ rfl
     rcases hi with rfl | rfl
     ·go_wp2
      go_ret
      rw [E.out]
      exact ⟨rfl, (X6.out.put (k' := kp.doubt 0) 2 (.bool true) (by omega) rfl rfl).kn⟩
     ·go_wp2
      go_ret
      rw [E.out]
      exact ⟨rfl, (X6.out.put (k' := kp.doubt 1) 3 (.bool true) (by omega) rfl rfl).kn⟩
    ·have b3 : (e1 == 3) = false := by simpa using h3
     by_cases h0 : e1 = 0
     ·subst h0
      have i0 := A6.out.c 0 _ rfl
      have i1 := A6.out.c 1 _ rfl
      by_cases hx : x1 = i
      ·subst hx
       have FK := Hid.mk' (findK_any kp.kn x1 y1 bk vk w6 (X6.out.at_.c 1 _ rfl) X6.out.ow (by omega))
       go_wp2_with fail
       refine Calls.mono FK.out ?_
       rintro e w7 ⟨rfl, g7⟩
       have X7 := Hid.mk' (X6.out.grown g7)
       have A7 := Hid.mk' (A6.out.grown g7)
       clear g7
       by_cases hF : 0 <= findK kp.kn x1 y1
       ·have E : Hid (kp.minted x1 0 x1 y1 0 = (false, kp)) := Hid.mk' <| by simp [Kp.minted, hF]
        go_wp2
        go_ret
        rw [E.out]
        exact ⟨rfl, X7.out.kn⟩
       ·have E : Hid (kp.minted x1 0 x1 y1 0 = (true, kp.add x1 y1)) := Hid.mk' <| by simp [Kp.minted, hF]
        go_wp2_with fail
        refine wp_region_held_drew (S := fun w' => At w' bi [.int .i64 x1, .int .i64 y1]) (by kernel_rfl) (A7.out.drew) (fun hHeld => ?_)
        refine hTk 0 ?_
        simp only [lS0, lS1]
        refine hTk 1 ?_
        simp only [lS0, lS1]
        refine hTk 2 ?_
        simp only [lS0, lS1]
        refine hTk 3 ?_
        simp only [lS0, lS1]
        refine hTy 5 rfl (by intro w hSw; have S0 := hSw.c 0 _ rfl; have S1 := hSw.c 1 _ rfl; go_simp; try with_reducible rfl) ?_
        simp only [lS0, lS1]
        refine hTk 6 ?_
        simp only [lS0, lS1]
        have X8 := Hid.mk' (X7.out.grown (grownBy_drew (World.grownBy_alloc w7 (.cells #[.int .i64 x1, .int .i64 y1, .int .i64 1] 77) none)))
        have C8 : Hid (∀ j u, (Kn.cells ⟨x1, y1, 1⟩)[j]? = some u -> (w7.alloc (.cells #[.int .i64 x1, .int .i64 y1, .int .i64 1] 77)).drew.cell? ((⟨w7.heap.size, 0, none⟩ : Addr).add j) = some u) := Hid.mk' fun j u hu => (grownBy_drew (grownBy_refl _ none)).cell (cells_new w7 [.int .i64 x1, .int .i64 y1, .int .i64 1] _ _ rfl j u hu) (by simp)
        refine hTwo 4 7 (by kernel_rfl) ?_ ?_
        ·refine hRunAt 4 (by rfl) (by rfl) ?_
         intro K' hK
         have c1 := X7.out.at_.drew.c 1 _ rfl
         go_simp
         refine hK _ _ hHeld ?_
         clear hK K' c1
         refine hRun 7 (by kernel_rfl) (by rfl) (by rfl) ?_
         intro K' hK
         go_simp
         have hA := (hHeld.grown (grownBy_refl _ _))
         refine hK _ _ ((A7.out.alloc _).drew) ?_
         clear hK K' hA hHeld
         have hHeld : At (w7.alloc (.cells #[.int .i64 x1, .int .i64 y1, .int .i64 1] 77)).drew bi [.int .i64 x1, .int .i64 y1] := (A7.out.alloc _).drew
         refine hRun 8 (by kernel_rfl) (by rfl) (by rfl) ?_
         intro K' hK
         refine op_appKn (.tmp 77) (.tmp 80) rfl 0 vk kp.kn rfl X8.out.ow ⟨w7.heap.size, 0, none⟩ ⟨x1, y1, 1⟩ rfl C8.out hl (Nat.zero_le _) ?_
         intro v8 w8 o8 g8 h8
         obtain ⟨a8, c8, rfl⟩ := slice_len o8
         obtain ⟨n8, hn8⟩ : ∃ n, (kp.kn ++ [(⟨x1, y1, 1⟩ : Kn)]).length = n := ⟨_, rfl⟩
         rw [hn8] at o8 h8 ⊢
         have hB : At w8 bi [.int .i64 x1, .int .i64 y1] := hHeld.only (Only.grown g8) (fun e => by have := H.out.ow.lt _ e; have := LB.out; omega)
         clear hHeld
         have hHeld := hB
         clear hB
         refine hK _ _ hHeld ?_
         clear hK K'
         have A8 := X8.out.at_.only (Only.grown g8) X8.out.nb
         have X9 := Hid.mk' (X8.out.app o8 g8 h8)
         have ck := A8.c 1 _ rfl
         have hf8 := A8.f
         clear o8 g8 h8 A8
         simp only [Act.put, List.setIfInBounds_toArray, lS0, lS1]
         refine hTk 9 ?_
         simp only [lS0, lS1]
         refine hTk 10 ?_
         simp only [lS0, lS1]
         refine hRun 11 (by kernel_rfl) (by rfl) (by rfl) ?_
         intro K' hK
         go_simp
         refine hK _ _ (hHeld.only (Only.set w8 bk 1 _) (fun e => by have := LB.out; omega)) ?_
         clear hK K'
         refine wpAnyH_done (by kernel_rfl) ?_ _
         go_wp2
         go_ret
         rw [E.out]
         exact ⟨rfl, X9.out.kn⟩
        ·refine hRunAt 7 (by rfl) (by rfl) ?_
         intro K' hK
         go_simp
         have hA := (hHeld.grown (grownBy_refl _ _))
         refine hK _ _ ((A7.out.alloc _).drew) ?_
         clear hK K' hA hHeld
         have hHeld : At (w7.alloc (.cells #[.int .i64 x1, .int .i64 y1, .int .i64 1] 77)).drew bi [.int .i64 x1, .int .i64 y1] := (A7.out.alloc _).drew
         refine hRun 4 (by kernel_rfl) (by rfl) (by rfl) ?_
         intro K' hK
         have c1 := X8.out.at_.c 1 _ rfl
         go_simp
         refine hK _ _ hHeld ?_
         clear hK K' c1
         refine hRun 8 (by kernel_rfl) (by rfl) (by rfl) ?_
         intro K' hK
         refine op_appKn (.tmp 77) (.tmp 80) rfl 0 vk kp.kn rfl X8.out.ow ⟨w7.heap.size, 0, none⟩ ⟨x1, y1, 1⟩ rfl C8.out hl (Nat.zero_le _) ?_
         intro v8 w8 o8 g8 h8
         obtain ⟨a8, c8, rfl⟩ := slice_len o8
         obtain ⟨n8, hn8⟩ : ∃ n, (kp.kn ++ [(⟨x1, y1, 1⟩ : Kn)]).length = n := ⟨_, rfl⟩
         rw [hn8] at o8 h8 ⊢
         have hB : At w8 bi [.int .i64 x1, .int .i64 y1] := hHeld.only (Only.grown g8) (fun e => by have := H.out.ow.lt _ e; have := LB.out; omega)
         clear hHeld
         have hHeld := hB
         clear hB
         refine hK _ _ hHeld ?_
         clear hK K'
         have A8 := X8.out.at_.only (Only.grown g8) X8.out.nb
         have X9 := Hid.mk' (X8.out.app o8 g8 h8)
         have ck := A8.c 1 _ rfl
         have hf8 := A8.f
         clear o8 g8 h8 A8
         simp only [Act.put, List.setIfInBounds_toArray, lS0, lS1]
         refine hTk 9 ?_
         simp only [lS0, lS1]
         refine hTk 10 ?_
         simp only [lS0, lS1]
         refine hRun 11 (by kernel_rfl) (by rfl) (by rfl) ?_
         intro K' hK
         go_simp
         refine hK _ _ (hHeld.only (Only.set w8 bk 1 _) (fun e => by have := LB.out; omega)) ?_
         clear hK K'
         refine wpAnyH_done (by kernel_rfl) ?_ _
         go_wp2
         go_ret
         rw [E.out]
         exact ⟨rfl, X9.out.kn⟩
      ·have E : Hid (kp.minted i 0 x1 y1 0 = (false, kp)) := Hid.mk' <| by simp [Kp.minted, hx]
       have hxb : (x1 == i) = false := by simpa using hx
       go_wp2
       go_ret
       rw [E.out]
       exact ⟨rfl, X6.out.kn⟩
     ·have E : Hid (kp.minted i 0 x1 y1 e1 = (decide (e1 = 6) || decide (e1 = 5), kp)) := Hid.mk' <| by simp [Kp.minted, h3, h0]
      have b0 : (e1 == 0) = false := by simpa using h0
      by_cases h6 : e1 = 6
      ·subst h6
       go_wp2
       go_ret
       rw [E.out]
       exact ⟨rfl, X6.out.kn⟩
      ·have b6 : (e1 == 6) = false := by simpa using h6
       by_cases h5 : e1 = 5
       ·subst h5
        go_wp2
        go_ret
        rw [E.out]
        exact ⟨rfl, X6.out.kn⟩
       ·have b5 : (e1 == 5) = false := by simpa using h5
        go_wp2
        go_ret
        rw [E.out]
        exact ⟨by simp [h5, h6], X6.out.kn⟩
   ·have E : Hid (kp.minted i U x1 y1 e1 = (decide (U = 3) && decide (e1 = 3), kp)) := Hid.mk' <| if_pos hU
    have bU : (U == 0) = false := by simpa using hU
    by_cases u3 : U = 3
    ·subst u3
     by_cases h3 : e1 = 3
     ·subst h3
      go_wp2
      go_ret
      rw [E.out]
      exact ⟨rfl, X6.out.kn⟩
     ·have b3 : (e1 == 3) = false := by simpa using h3
      go_wp2
      go_ret
      rw [E.out]
      exact ⟨by simp [h3], X6.out.kn⟩
    ·have b3 : (U == 3) = false := by simpa using u3
     go_wp2
     go_ret
     rw [E.out]
     exact ⟨by simp [u3], X6.out.kn⟩
 ·refine hRunAt 16 (by rfl) (by rfl) ?_
  intro K' hK
  refine op_box2 9 rfl rfl ?_
  intro bi w9 a9 g9 b9
  have hH := hHeld
  clear hHeld
  have LB : Hid (w.heap.size < bi) := Hid.mk' (Nat.lt_of_lt_of_le hH.2.lt b9)
  have hHeld : At w9 bk (kpC bp vk kp) /\ At w9 w.heap.size (AK K sh k m x y pl sp t) := ⟨hH.1.grown g9, hH.2.grown g9⟩
  clear hH
  refine hK _ _ hHeld ?_
  clear hK K'
  have BI : Hid (w.heap.size < bi /\ At w9 bi [.int .i64 0, .int .i64 0]) := Hid.mk' ⟨LB.out, a9⟩
  have GC := Hid.mk' (GB.out.trans g9)
  clear GB g9 a9 b9
  have GB := GC
  clear GC
  simp only [Act.put, List.setIfInBounds_toArray, lS0, lS1]
  refine hCall 8 (f := 78) (args := #[.float .f32 pl, .int .i64 i]) (by kernel_rfl) (by rfl) (by rfl) (by go_simp) ?_
  refine Calls.mono (CS.out _) ?_
  rintro e w8 ⟨rfl, rfl⟩
  refine ⟨_, rfl, hHeld, ?_⟩
  simp only [lS0, lS1]
  refine hCall 11 (f := 79) (args := #[.float .f32 sp]) (by kernel_rfl) (by rfl) (by rfl) (by go_simp) ?_
  refine Calls.mono (CV.out _) ?_
  rintro e w11 ⟨rfl, rfl⟩
  refine ⟨_, rfl, hHeld, ?_⟩
  simp only [lS0, lS1]
  refine hCall 12 (f := 46) (args := #[.pointer (some ⟨bp, 0, none⟩), .int .i64 i, .float .f32 (sideF pl i), .float .f32 (speedF sp)]) (by kernel_rfl) (by rfl) (by rfl) (by go_simp) ?_
  refine Calls.mono (CT.out _ GB.out) ?_
  rintro e w2 ⟨rfl, n1⟩
  have X1 := Hid.mk' ((H.out.grown GB.out).turnX n1)
  have h2 : At w2 bk (kpC bp vk kp) /\ At w2 w.heap.size (AK K sh k m x y pl sp t) := ⟨X1.out.1.at_, hHeld.2.only n1.2 (fun e => Nat.lt_irrefl _ (H.out.lt _ e))⟩
  have X2 := Hid.mk' (H.out.turnB GB.out n1 (Nat.le_of_lt BI.out.1) BI.out.2.lt)
  have AI := Hid.mk' (BI.out.2.only n1.2 (fun e => Nat.lt_irrefl _ (Nat.lt_trans (H.out.lt _ e) BI.out.1)))
  clear n1 hHeld
  have hHeld := h2
  clear h2
  refine ⟨_, rfl, hHeld, ?_⟩
  simp only [lS0, lS1]
  refine hTk 13 ?_
  simp only [lS0, lS1]
  refine hTk 14 ?_
  simp only [lS0, lS1]
  refine hTk 15 ?_
  simp only [lS0, lS1]
  refine hRun 17 (by kernel_rfl) (by rfl) (by rfl) ?_
  intro K' hK
  refine op_put2 bi x1 y1 (.tmp 9) (.tmp 34) rfl rfl rfl rfl AI.out ?_
  intro w6 a6 o6
  have hH : At w6 bk (kpC bp vk kp) /\ At w6 w.heap.size (AK K sh k m x y pl sp t) := ⟨hHeld.1.only o6 (fun e => by have := LB.out; omega), hHeld.2.only o6 (fun e => by have := LB.out; omega)⟩
  clear hHeld
  have hHeld := hH
  clear hH
  refine hK _ _ hHeld ?_
  clear hK K'
  refine hTk 18 ?_
  simp only [lS0, lS1]
  have X6 := Hid.mk' (X2.out.away o6)
  have A6 := Hid.mk' a6
  clear a6 o6 hHeld X2 X1 AI
  refine wpAnyH_done (by kernel_rfl) ?_ _
  by_cases hU : U = 0
  ·subst hU
   by_cases h3 : e1 = 3
   ·subst h3
    have E : Hid (kp.minted i 0 x1 y1 3 = (true, kp.doubt i)) := Hid.mk' <| rfl
    have hf := X6.out.at_.f
    have c2 := X6.out.at_.c 2 _ rfl
    have c3 := X6.out.at_.c 3 _ rfl
    rcases hi with rfl | rfl
    ·go_wp2
     go_ret
     rw [E.out]
     exact ⟨rfl, (X6.out.put (k' := kp.doubt 0) 2 (.bool true) (by omega) rfl rfl).kn⟩
    ·go_wp2
     go_ret
     rw [E.out]
     exact ⟨rfl, (X6.out.put (k' := kp.doubt 1) 3 (.bool true) (by omega) rfl rfl).kn⟩
   ·have b3 : (e1 == 3) = false := by simpa using h3
    by_cases h0 : e1 = 0
    ·subst h0
     have i0 := A6.out.c 0 _ rfl
     have i1 := A6.out.c 1 _ rfl
     by_cases hx : x1 = i
     ·subst hx
      have FK := Hid.mk' (findK_any kp.kn x1 y1 bk vk w6 (X6.out.at_.c 1 _ rfl) X6.out.ow (by omega))
      go_wp2_with fail
      refine Calls.mono FK.out ?_
      rintro e w7 ⟨rfl, g7⟩
      have X7 := Hid.mk' (X6.out.grown g7)
      have A7 := Hid.mk' (A6.out.grown g7)
      clear g7
      by_cases hF : 0 <= findK kp.kn x1 y1
      ·have E : Hid (kp.minted x1 0 x1 y1 0 = (false, kp)) := Hid.mk' <| by simp [Kp.minted, hF]
       go_wp2
       go_ret
       rw [E.out]
       exact ⟨rfl, X7.out.kn⟩
      ·have E : Hid (kp.minted x1 0 x1 y1 0 = (true, kp.add x1 y1)) := Hid.mk' <| by simp [Kp.minted, hF]
       go_wp2_with fail
       refine wp_region_held_drew (S := fun w' => At w' bi [.int .i64 x1, .int .i64 y1]) (by kernel_rfl) (A7.out.drew) (fun hHeld => ?_)
       refine hTk 0 ?_
       simp only [lS0, lS1]
       refine hTk 1 ?_
       simp only [lS0, lS1]
       refine hTk 2 ?_
       simp only [lS0, lS1]
       refine hTk 3 ?_
       simp only [lS0, lS1]
       refine hTy 5 rfl (by intro w hSw; have S0 := hSw.c 0 _ rfl; have S1 := hSw.c 1 _ rfl; go_simp; try with_reducible rfl) ?_
       simp only [lS0, lS1]
       refine hTk 6 ?_
       simp only [lS0, lS1]
       have X8 := Hid.mk' (X7.out.grown (grownBy_drew (World.grownBy_alloc w7 (.cells #[.int .i64 x1, .int .i64 y1, .int .i64 1] 77) none)))
       have C8 : Hid (∀ j u, (Kn.cells ⟨x1, y1, 1⟩)[j]? = some u -> (w7.alloc (.cells #[.int .i64 x1, .int .i64 y1, .int .i64 1] 77)).drew.cell? ((⟨w7.heap.size, 0, none⟩ : Addr).add j) = some u) := Hid.mk' fun j u hu => (grownBy_drew (grownBy_refl _ none)).cell (cells_new w7 [.int .i64 x1, .int .i64 y1, .int .i64 1] _ _ rfl j u hu) (by simp)
       refine hTwo 4 7 (by kernel_rfl) ?_ ?_
       ·refine hRunAt 4 (by rfl) (by rfl) ?_
        intro K' hK
        have c1 := X7.out.at_.drew.c 1 _ rfl
        go_simp
        refine hK _ _ hHeld ?_
        clear hK K' c1
        refine hRun 7 (by kernel_rfl) (by rfl) (by rfl) ?_
        intro K' hK
        go_simp
        have hA := (hHeld.grown (grownBy_refl _ _))
        refine hK _ _ ((A7.out.alloc _).drew) ?_
        clear hK K' hA hHeld
        have hHeld : At (w7.alloc (.cells #[.int .i64 x1, .int .i64 y1, .int .i64 1] 77)).drew bi [.int .i64 x1, .int .i64 y1] := (A7.out.alloc _).drew
        refine hRun 8 (by kernel_rfl) (by rfl) (by rfl) ?_
        intro K' hK
        refine op_appKn (.tmp 77) (.tmp 80) rfl 0 vk kp.kn rfl X8.out.ow ⟨w7.heap.size, 0, none⟩ ⟨x1, y1, 1⟩ rfl C8.out hl (Nat.zero_le _) ?_
        intro v8 w8 o8 g8 h8
        obtain ⟨a8, c8, rfl⟩ := slice_len o8
        obtain ⟨n8, hn8⟩ : ∃ n, (kp.kn ++ [(⟨x1, y1, 1⟩ : Kn)]).length = n := ⟨_, rfl⟩
        rw [hn8] at o8 h8 ⊢
        have hB : At w8 bi [.int .i64 x1, .int .i64 y1] := hHeld.only (Only.grown g8) (fun e => by have := H.out.ow.lt _ e; have := LB.out; omega)
        clear hHeld
        have hHeld := hB
        clear hB
        refine hK _ _ hHeld ?_
        clear hK K'
        have A8 := X8.out.at_.only (Only.grown g8) X8.out.nb
        have X9 := Hid.mk' (X8.out.app o8 g8 h8)
        have ck := A8.c 1 _ rfl
        have hf8 := A8.f
        clear o8 g8 h8 A8
        simp only [Act.put, List.setIfInBounds_toArray, lS0, lS1]
        refine hTk 9 ?_
        simp only [lS0, lS1]
        refine hTk 10 ?_
        simp only [lS0, lS1]
        refine hRun 11 (by kernel_rfl) (by rfl) (by rfl) ?_
        intro K' hK
        go_simp
        refine hK _ _ (hHeld.only (Only.set w8 bk 1 _) (fun e => by have := LB.out; omega)) ?_
        clear hK K'
        refine wpAnyH_done (by kernel_rfl) ?_ _
        go_wp2
        go_ret
        rw [E.out]
        exact ⟨rfl, X9.out.kn⟩
       ·refine hRunAt 7 (by rfl) (by rfl) ?_
        intro K' hK
        go_simp
        have hA := (hHeld.grown (grownBy_refl _ _))
        refine hK _ _ ((A7.out.alloc _).drew) ?_
        clear hK K' hA hHeld
        have hHeld : At (w7.alloc (.cells #[.int .i64 x1, .int .i64 y1, .int .i64 1] 77)).drew bi [.int .i64 x1, .int .i64 y1] := (A7.out.alloc _).drew
        refine hRun 4 (by kernel_rfl) (by rfl) (by rfl) ?_
        intro K' hK
        have c1 := X8.out.at_.c 1 _ rfl
        go_simp
        refine hK _ _ hHeld ?_
        clear hK K' c1
        refine hRun 8 (by kernel_rfl) (by rfl) (by rfl) ?_
        intro K' hK
        refine op_appKn (.tmp 77) (.tmp 80) rfl 0 vk kp.kn rfl X8.out.ow ⟨w7.heap.size, 0, none⟩ ⟨x1, y1, 1⟩ rfl C8.out hl (Nat.zero_le _) ?_
        intro v8 w8 o8 g8 h8
        obtain ⟨a8, c8, rfl⟩ := slice_len o8
        obtain ⟨n8, hn8⟩ : ∃ n, (kp.kn ++ [(⟨x1, y1, 1⟩ : Kn)]).length = n := ⟨_, rfl⟩
        rw [hn8] at o8 h8 ⊢
        have hB : At w8 bi [.int .i64 x1, .int .i64 y1] := hHeld.only (Only.grown g8) (fun e => by have := H.out.ow.lt _ e; have := LB.out; omega)
        clear hHeld
        have hHeld := hB
        clear hB
        refine hK _ _ hHeld ?_
        clear hK K'
        have A8 := X8.out.at_.only (Only.grown g8) X8.out.nb
        have X9 := Hid.mk' (X8.out.app o8 g8 h8)
        have ck := A8.c 1 _ rfl
        have hf8 := A8.f
        clear o8 g8 h8 A8
        simp only [Act.put, List.setIfInBounds_toArray, lS0, lS1]
        refine hTk 9 ?_
        simp only [lS0, lS1]
        refine hTk 10 ?_
        simp only [lS0, lS1]
        refine hRun 11 (by kernel_rfl) (by rfl) (by rfl) ?_
        intro K' hK
        go_simp
        refine hK _ _ (hHeld.only (Only.set w8 bk 1 _) (fun e => by have := LB.out; omega)) ?_
        clear hK K'
        refine wpAnyH_done (by kernel_rfl) ?_ _
        go_wp2
        go_ret
        rw [E.out]
        exact ⟨rfl, X9.out.kn⟩
     ·have E : Hid (kp.minted i 0 x1 y1 0 = (false, kp)) := Hid.mk' <| by simp [Kp.minted, hx]
      have hxb : (x1 == i) = false := by simpa using hx
      go_wp2
      go_ret
      rw [E.out]
      exact ⟨rfl, X6.out.kn⟩
    ·have E : Hid (kp.minted i 0 x1 y1 e1 = (decide (e1 = 6) || decide (e1 = 5), kp)) := Hid.mk' <| by simp [Kp.minted, h3, h0]
     have b0 : (e1 == 0) = false := by simpa using h0
     by_cases h6 : e1 = 6
     ·subst h6
      go_wp2
      go_ret
      rw [E.out]
      exact ⟨rfl, X6.out.kn⟩
     ·have b6 : (e1 == 6) = false := by simpa using h6
      by_cases h5 : e1 = 5
      ·subst h5
       go_wp2
       go_ret
       rw [E.out]
       exact ⟨rfl, X6.out.kn⟩
      ·have b5 : (e1 == 5) = false := by simpa using h5
       go_wp2
       go_ret
       rw [E.out]
       exact ⟨by simp [h5, h6], X6.out.kn⟩
  ·have E : Hid (kp.minted i U x1 y1 e1 = (decide (U = 3) && decide (e1 = 3), kp)) := Hid.mk' <| if_pos hU
   have bU : (U == 0) = false := by simpa using hU
   by_cases u3 : U = 3
   ·subst u3
    by_cases h3 : e1 = 3
    ·subst h3
     go_wp2
     go_ret
     rw [E.out]
     exact ⟨rfl, X6.out.kn⟩
    ·have b3 : (e1 == 3) = false := by simpa using h3
     go_wp2
     go_ret
     rw [E.out]
     exact ⟨by simp [h3], X6.out.kn⟩
   ·have b3 : (U == 3) = false := by simpa using u3
    go_wp2
    go_ret
    rw [E.out]
    exact ⟨by simp [u3], X6.out.kn⟩
def Kp.how (k : Kp) (n : Nat) (v : Int) : Kp := { k with kn := k.kn.modify n (fun q => { q with how := v }) }
theorem flat_how (l : List Kn) (n : Nat) (v : Int) (h : n < l.length) : (l.modify n (fun q => { q with how := v })).flatMap Kn.cells = (l.flatMap Kn.cells).set (n * 3 + 2) (.int .i64 v) := by
 induction l generalizing n with
 | nil => simp at h
 | cons q t ih =>
  cases n with
  | zero => simp [Kn.cells]
  | succ n =>
   rw [List.modify_succ_cons, List.flatMap_cons, List.flatMap_cons, ih n (by simpa using h), List.set_append_right _ _ (by simp [Kn.cells]; omega)]
   congr 2
   simp [Kn.cells]
   omega
theorem KM.how {w w1 : World} {bk bp : Nat} {vk : Value} {D : Nat -> Prop} {k : Kp} {p : Pr} {g N c : Nat} (h : KM w w1 bk bp vk D (.slice (some ⟨g, 0, none⟩) N c) k p) (hN : k.kn.length = N) (n : Nat) (v : Int) (hn : n < N) :
  KM w (w1.setCell ⟨g, n * 3 + 2, none⟩ (.int .i64 v)) bk bp vk D (.slice (some ⟨g, 0, none⟩) N c) (k.how n v) p := by
 obtain ⟨E, hx, hs⟩ := h
 have o := Only.set w1 g (n * 3 + 2) (.int .i64 v)
 have ng : ¬ E g /\ g ≠ bk := hx.nv g rfl
 refine ⟨E, ⟨?_, ?_, hx.pw.only o (fun j _ hj e => ng.1 (e ▸ hj)), fun j hj => Nat.lt_of_lt_of_le (hx.lt j hj) o.size, hx.nb, hx.nv⟩, hs.trans ⟨fun _ e => .inl e, o.mono (fun j _ e => .inr (.inl (by subst e; rfl)))⟩⟩
 ·have := hx.at_.only o (fun e => ng.2 e.symm)
  exact this
 ·have ow := hx.ow
  unfold OwnK at ow ⊢
  rw [show (k.how n v).kn = k.kn.modify n (fun q => { q with how := v }) from rfl, List.length_modify, flat_how _ _ _ (by omega), hN] at *
  exact (ow.stored (n * 3 + 2) (.int .i64 v)).1
def Kp.destroyed (k : Kp) (n : Nat) (h up e : Int) : Bool × Kp :=
 if ¬ up = 0 then (decide (up = 3) && decide (e = 3), k)
 else if e = 0 then (decide (¬ h = 2), k.how n 2)
 else if e = 3 then (true, if h = 1 then k.how n 3 else k)
 else (decide (e = 4) || decide (e = 5), k)
theorem destroyed_nil (bk bp : Nat) (vk : Value) (D : Nat -> Prop) (kp : Kp) (p : Pr) (i K sh k m x y : Int) (pl sp : Nat) (t : ByteArray) (w : World) (h : KX w bk bp vk D kp p) (hl : kp.kn = []) :
  Calls Tryz.prog 34 #[.pointer (some ⟨bk, 0, none⟩), .int .i64 i, acV K sh k m x y pl sp t] w fun e w' => e = .returned (.bool true) /\ KN w w' bk bp vk D kp p := by
 obtain ⟨a, c, rfl⟩ := slice_len h.ow
 have H := Hid.mk' h
 have G0 := Hid.mk' (World.grownBy_alloc w (.cells #[.int .i64 K, .int .i64 sh, .int .i64 k, .int .i64 m, .int .i64 x, .int .i64 y, .float .f32 pl, .float .f32 sp, .string t] 35) none)
 have c1 := h.at_.c 1 _ rfl
 have hlt := h.at_.lt
 have l0 : kp.kn.length = 0 := by rw [hl]; rfl
 rw [l0] at c1
 clear h hl
 go_enter Tryz.func34, Tryz.ntmps34
 go_wp2
 go_ret
 exact ⟨rfl, H.out.grew G0.out⟩
theorem destroyed_any (bk bp : Nat) (vk : Value) (D : Nat -> Prop) (kp : Kp) (p : Pr) (i K sh k m x y : Int) (pl sp : Nat) (t : ByteArray) (w : World) (n : Nat) (q : Kn) (h : KX w bk bp vk D kp p) (gd : PGd p) (hk : i64B k) (hl : kp.kn.length <= 3000000) (hn : pickN k kp.kn.length = n) (hq : kp.kn[n]? = some q) (hx : i64B q.sh) (hy : i64B q.nu) :
  Calls Tryz.prog 34 #[.pointer (some ⟨bk, 0, none⟩), .int .i64 i, acV K sh k m x y pl sp t] w fun e w' =>
   e = .returned (.bool (kp.destroyed n q.how (p.upE i) (p.destroy i q.sh q.nu).1).1) /\ KN w w' bk bp vk D (kp.destroyed n q.how (p.upE i) (p.destroy i q.sh q.nu).1).2 (p.destroy i q.sh q.nu).2 := by
 have hnl : n < kp.kn.length := (List.getElem?_eq_some_iff.1 hq).1
 obtain ⟨a, c, rfl, hc⟩ := lies_of h.ow
 obtain ⟨g, hg⟩ : ∃ g, a = some ⟨g, 0, none⟩ := by
  rcases h.ow.2 with ⟨h', _⟩ | ⟨g, cap, cur, h', _⟩
  ·injection h' with _ h' _; omega
  ·injection h' with h' _ _; exact ⟨g, h'⟩
 subst hg
 obtain ⟨g', off', e', hc⟩ := hc (by omega)
 obtain ⟨rfl, rfl⟩ : g = g' /\ 0 = off' := by injection e' with e'; injection e' with e1 e2 _; exact ⟨e1, e2⟩
 have qe : kp.kn[n] = q := (List.getElem?_eq_some_iff.1 hq).2
 have d : ∀ j (hj : j < 3) u, q.cells[j]? = some u -> w.cell? ⟨g, n * 3 + j, none⟩ = some u := fun j hj u hu => by
  have := hc (3 * n + j) u (by rw [flat_at3 kp.kn n j hnl hj, qe]; exact hu)
  rw [show 0 + (3 * n + j) = n * 3 + j by omega] at this
  exact this
 have d0 := d 0 (by omega) _ rfl
 have d1 := d 1 (by omega) _ rfl
 have d2 := d 2 (by omega) _ rfl
 rw [Nat.add_zero] at d0
 have ng : Hid (¬ D g /\ g ≠ bk) := Hid.mk' (h.nv g rfl)
 have glt : g < w.heap.size := World.block_lt_of_cell? w _ d0
 obtain ⟨N, hN⟩ : ∃ N, kp.kn.length = N := ⟨_, rfl⟩
 have HN := Hid.mk' hN
 rw [hN] at hn hl hnl h
 have H := Hid.mk' h
 have G0 := Hid.mk' (World.grownBy_alloc w (.cells #[.int .i64 K, .int .i64 sh, .int .i64 k, .int .i64 m, .int .i64 x, .int .i64 y, .float .f32 pl, .float .f32 sp, .string t] 35) none)
 have AX := Hid.mk' (At.new w [.int .i64 K, .int .i64 sh, .int .i64 k, .int .i64 m, .int .i64 x, .int .i64 y, .float .f32 pl, .float .f32 sp, .string t] 35)
 have A0 := Hid.mk' (h.at_.grown G0.out)
 have c0 := h.at_.c 0 _ rfl
 have c1 := h.at_.c 1 _ rfl
 have hlt := h.at_.lt
 have CM := Hid.mk' fun W (g : w.grownBy W none) => marks_px (h.grown g).pw i
 have CT := Hid.mk' fun W (g : w.grownBy W none) => destroy_px (h.grown g).pw gd i q.sh q.nu hx hy
 have CP := Hid.mk' fun W => pickN_any k N W hk (by omega) (by omega)
 rw [hn] at CP
 have DD := Hid.mk' (And.intro d0 (And.intro d1 d2))
 have hsf := run_store_float
 have nb0 : ((N : Int) == 0) = false := by simp; omega
 clear h gd hc d d0 d1 d2 hq qe hn hN e'
 obtain ⟨qx, qy, qh⟩ := q
 dsimp only at *
 generalize p.destroy i qx qy = R at CT ⊢
 generalize p.marks i = M at CM
 generalize p.upE i = U at CM ⊢
 obtain ⟨e1, p1⟩ := R
 dsimp only at CT ⊢
 unfold mkV at CM
 go_enter Tryz.func34, Tryz.ntmps34
 go_wp2_with fail
 refine wp_region_held_drew (S := fun w' => At w' bk (kpC bp (.slice (some ⟨g, 0, none⟩) N c) kp) /\ At w' w.heap.size (AK K sh k m x y pl sp t)) (by kernel_rfl) (⟨A0.out.drew, AX.out.drew⟩) (fun hHeld => ?_)
 refine hTk 0 ?_
 simp only [lS0, lS1]
 refine hTy 1 rfl (by intro w hSw; have S2 := hSw.2.c 2 _ rfl; go_simp; try with_reducible rfl) ?_
 simp only [lS0, lS1]
 refine hTk 2 ?_
 simp only [lS0, lS1]
 refine hTk 3 ?_
 simp only [lS0, lS1]
 refine hTk 4 ?_
 simp only [lS0, lS1]
 refine hTy 5 rfl (by intro w hSw; have S1 := hSw.1.c 1 _ rfl; go_simp; try with_reducible rfl) ?_
 simp only [lS0, lS1]
 refine hTk 6 ?_
 simp only [lS0, lS1]
 refine hCall 7 (f := 13) (args := #[.int .i64 k, .int .i64 N]) (by kernel_rfl) (by rfl) (by rfl) (by go_simp) ?_
 refine Calls.mono (CP.out _) ?_
 rintro e w7 ⟨rfl, rfl⟩
 refine ⟨_, rfl, hHeld, ?_⟩
 simp only [lS0, lS1]
 refine hTk 8 ?_
 simp only [lS0, lS1]
 refine wpAnyH_done (by kernel_rfl) ?_ _
 clear hHeld
 have c0' := (A0.out.drew).c 0 _ rfl
 go_wp2_with fail
 refine Calls.mono (CM.out _ (grownBy_drew G0.out)) ?_
 rintro e w1 ⟨rfl, g1⟩
 have G2 := Hid.mk' (((grownBy_drew G0.out).trans g1).trans (World.grownBy_alloc w1 (.cells #[.int .i64 M.g, .int .i64 M.m, .int .i64 M.s, .int .i64 M.a, .int .i64 M.n] 44) none))
 clear g1 c0'
 go_wp2_with fail
 refine wp_region_held_drew (S := fun w' => At w' bk (kpC bp (.slice (some ⟨g, 0, none⟩) N c) kp) /\ w'.cell? ⟨g, n * 3, none⟩ = some (.int .i64 qx) /\ w'.cell? ⟨g, n * 3 + 1, none⟩ = some (.int .i64 qy) /\ w'.cell? ⟨g, n * 3 + 2, none⟩ = some (.int .i64 qh)) (by kernel_rfl)
  (⟨(H.out.at_.grown G2.out).drew, (grownBy_drew G2.out).cell DD.out.1 (by simp), (grownBy_drew G2.out).cell DD.out.2.1 (by simp), (grownBy_drew G2.out).cell DD.out.2.2 (by simp)⟩) (fun hHeld => ?_)
 refine hTk 0 ?_
 simp only [lS0, lS1]
 refine hTk 1 ?_
 simp only [lS0, lS1]
 refine hTk 2 ?_
 simp only [lS0, lS1]
 refine hTy 3 rfl (by intro w hSw; have S0 := hSw.1.c 0 _ rfl; go_simp; try with_reducible rfl) ?_
 simp only [lS0, lS1]
 refine hTk 4 ?_
 simp only [lS0, lS1]
 refine hTk 5 ?_
 simp only [lS0, lS1]
 refine hTk 6 ?_
 simp only [lS0, lS1]
 refine hTk 7 ?_
 simp only [lS0, lS1]
 refine hTy 8 rfl (by intro w hSw; have S1 := hSw.1.c 1 _ rfl; go_simp; try with_reducible rfl) ?_
 simp only [lS0, lS1]
 refine hTk 9 ?_
 simp only [lS0, lS1]
 refine hTy 10 rfl (by intro w hSw; have y0 : (0 : Int) <= (n : Int) := (by omega); have y1 : (n : Int) < (N : Int) := (by omega); go_simp; try with_reducible rfl) ?_
 simp only [lS0, lS1]
 refine hTk 11 ?_
 simp only [lS0, lS1]
 refine hTy 12 rfl (by intro w hSw; have S0 := hSw.2.1; have S1 := hSw.2.2.1; go_simp; try with_reducible rfl) ?_
 simp only [lS0, lS1]
 refine hCall 13 (f := 48) (args := #[.pointer (some ⟨bp, 0, none⟩), .int .i64 i, .agg #[.int .i64 qx, .int .i64 qy]]) (by kernel_rfl) (by rfl) (by rfl) (by go_simp) ?_
 refine Calls.mono (CT.out _ (grownBy_drew G2.out)) ?_
 rintro e w2 ⟨rfl, n1⟩
 have X1 := Hid.mk' ((H.out.grown (grownBy_drew G2.out)).turnX n1)
 have hH : At w2 bk (kpC bp (.slice (some ⟨g, 0, none⟩) N c) kp) /\ w2.cell? ⟨g, n * 3, none⟩ = some (.int .i64 qx) /\ w2.cell? ⟨g, n * 3 + 1, none⟩ = some (.int .i64 qy) /\ w2.cell? ⟨g, n * 3 + 2, none⟩ = some (.int .i64 qh) := ⟨X1.out.1.at_, n1.2.cell hHeld.2.1 ng.out.1, n1.2.cell hHeld.2.2.1 ng.out.1, n1.2.cell hHeld.2.2.2 ng.out.1⟩
 clear hHeld n1
 have hHeld := hH
 clear hH
 refine ⟨_, rfl, hHeld, ?_⟩
 simp only [lS0, lS1]
 refine hTk 14 ?_
 simp only [lS0, lS1]
 refine wpAnyH_done (by kernel_rfl) ?_ _
 have X2 := Hid.mk' (KX.kn1 X1.out.1 ((KS.grown (grownBy_drew G2.out)).trans X1.out.2))
 have k1 := hHeld.1.c 1 _ rfl
 have h2 := hHeld.2.2.2
 have hfz : ∀ o, w2.frozen? ⟨g, o, none⟩ = false := fun o => by
  have := X2.out.ow
  unfold OwnK at this
  rw [HN.out] at this
  exact this.frozenAt o
 clear hHeld X1
 have y0 : (0 : Int) <= (n : Int) := by omega
 have y1 : (n : Int) < (N : Int) := by omega
 by_cases hU : U = 0
 ·subst hU
  by_cases h0 : e1 = 0
  ·subst h0
   have E : Hid (kp.destroyed n qh 0 0 = (decide (¬ qh = 2), kp.how n 2)) := Hid.mk' rfl
   have X3 := Hid.mk' (X2.out.how HN.out n 2 hnl).kn
   by_cases q2 : qh = 2
   ·subst q2
    go_wp2
    go_ret
    rw [E.out]
    exact ⟨rfl, X3.out⟩
   ·have b2 : (qh == 2) = false := by simpa using q2
    go_wp2
    go_ret
    rw [E.out]
    exact ⟨by simp [q2], X3.out⟩
  ·have b0 : (e1 == 0) = false := by simpa using h0
   by_cases h3 : e1 = 3
   ·subst h3
    have E : Hid (kp.destroyed n qh 0 3 = (true, if qh = 1 then kp.how n 3 else kp)) := Hid.mk' rfl
    have X3 := Hid.mk' (X2.out.how HN.out n 3 hnl).kn
    by_cases q1 : qh = 1
    ·subst q1
     go_wp2
     go_ret
     rw [E.out]
     exact ⟨rfl, X3.out⟩
    ·have b1 : (qh == 1) = false := by simpa using q1
     have E' : Hid ((if qh = 1 then kp.how n 3 else kp) = kp) := Hid.mk' (if_neg q1)
     go_wp2
     go_ret
     rw [E.out]
     dsimp only
     rw [E'.out]
     exact ⟨rfl, X2.out.kn⟩
   ·have b3 : (e1 == 3) = false := by simpa using h3
    have E : Hid (kp.destroyed n qh 0 e1 = (decide (e1 = 4) || decide (e1 = 5), kp)) := Hid.mk' (by simp [Kp.destroyed, h3, h0])
    by_cases h4 : e1 = 4
    ·subst h4
     go_wp2
     go_ret
     rw [E.out]
     exact ⟨rfl, X2.out.kn⟩
    ·have b4 : (e1 == 4) = false := by simpa using h4
     by_cases h5 : e1 = 5
     ·subst h5
      go_wp2
      go_ret
      rw [E.out]
      exact ⟨rfl, X2.out.kn⟩
     ·have b5 : (e1 == 5) = false := by simpa using h5
      go_wp2
      go_ret
      rw [E.out]
      exact ⟨by simp [h4, h5], X2.out.kn⟩
 ·have E : Hid (kp.destroyed n qh U e1 = (decide (U = 3) && decide (e1 = 3), kp)) := Hid.mk' (if_pos hU)
  have bU : (U == 0) = false := by simpa using hU
  by_cases u3 : U = 3
  ·subst u3
   by_cases h3 : e1 = 3
   ·subst h3
    go_wp2
    go_ret
    rw [E.out]
    exact ⟨rfl, X2.out.kn⟩
   ·have b3 : (e1 == 3) = false := by simpa using h3
    go_wp2
    go_ret
    rw [E.out]
    exact ⟨by simp [h3], X2.out.kn⟩
  ·have b3 : (U == 3) = false := by simpa using u3
   go_wp2
   go_ret
   rw [E.out]
   exact ⟨by simp [u3], X2.out.kn⟩
theorem kact_mint (bk bp : Nat) (vk : Value) (D : Nat -> Prop) (kp : Kp) (p : Pr) (sh k m x y : Int) (pl sp : Nat) (t : ByteArray) (w : World) (Q : Bool × Kp × Pr) (hs : i64B sh) (h : KX w bk bp vk D kp p)
  (CT : ∀ W, KX W bk bp vk D kp p -> Calls Tryz.prog 32 #[.pointer (some ⟨bk, 0, none⟩), .int .i64 (pickN sh 2), acV 1 sh k m x y pl sp t] W fun e w' => e = .returned (.bool Q.1) /\ KN W w' bk bp vk D Q.2.1 Q.2.2) :
  Calls Tryz.prog 12 #[.pointer (some ⟨bk, 0, none⟩), acV 1 sh k m x y pl sp t] w fun e w' => e = .returned (.bool Q.1) /\ KN w w' bk bp vk D Q.2.1 Q.2.2 := by
 have G0 := Hid.mk' (World.grownBy_alloc w (.cells #[.int .i64 1, .int .i64 sh, .int .i64 k, .int .i64 m, .int .i64 x, .int .i64 y, .float .f32 pl, .float .f32 sp, .string t] 35) none)
 have C1 := Hid.mk' (CT _ (h.grown G0.out))
 have PK := Hid.mk' fun W => pickN_any sh 2 W hs (by omega) (by omega)
 have hlt := h.at_.lt
 obtain ⟨q1, q2, q3⟩ := Q
 dsimp only at C1 ⊢
 clear CT h
 go_enter Tryz.func12, Tryz.ntmps12
 go_wp2_with fail
 refine Calls.mono (PK.out _) ?_
 rintro e w1 ⟨rfl, rfl⟩
 go_wp2_with fail
 refine Calls.mono C1.out ?_
 rintro e w1 ⟨rfl, n1⟩
 have N1 := Hid.mk' n1
 clear n1
 go_wp2
 go_ret
 exact ⟨rfl, KN.grown G0.out N1.out⟩
theorem kact_dest (bk bp : Nat) (vk : Value) (D : Nat -> Prop) (kp : Kp) (p : Pr) (sh k m x y : Int) (pl sp : Nat) (t : ByteArray) (w : World) (Q : Bool × Kp × Pr) (hs : i64B sh) (h : KX w bk bp vk D kp p)
  (CT : ∀ W, KX W bk bp vk D kp p -> Calls Tryz.prog 34 #[.pointer (some ⟨bk, 0, none⟩), .int .i64 (pickN sh 2), acV 2 sh k m x y pl sp t] W fun e w' => e = .returned (.bool Q.1) /\ KN W w' bk bp vk D Q.2.1 Q.2.2) :
  Calls Tryz.prog 12 #[.pointer (some ⟨bk, 0, none⟩), acV 2 sh k m x y pl sp t] w fun e w' => e = .returned (.bool Q.1) /\ KN w w' bk bp vk D Q.2.1 Q.2.2 := by
 have G0 := Hid.mk' (World.grownBy_alloc w (.cells #[.int .i64 2, .int .i64 sh, .int .i64 k, .int .i64 m, .int .i64 x, .int .i64 y, .float .f32 pl, .float .f32 sp, .string t] 35) none)
 have C1 := Hid.mk' (CT _ (h.grown G0.out))
 have PK := Hid.mk' fun W => pickN_any sh 2 W hs (by omega) (by omega)
 have hlt := h.at_.lt
 obtain ⟨q1, q2, q3⟩ := Q
 dsimp only at C1 ⊢
 clear CT h
 go_enter Tryz.func12, Tryz.ntmps12
 go_wp2_with fail
 refine Calls.mono (PK.out _) ?_
 rintro e w1 ⟨rfl, rfl⟩
 go_wp2_with fail
 refine Calls.mono C1.out ?_
 rintro e w1 ⟨rfl, n1⟩
 have N1 := Hid.mk' n1
 clear n1
 go_wp2
 go_ret
 exact ⟨rfl, KN.grown G0.out N1.out⟩
def Kp.at (k : Kp) (n : Nat) : Kn := (k.kn[n]?).getD ⟨0, 0, 0⟩
def kAct (k : Kp) (p : Pr) (K i n m : Int) (pl sp : Nat) : Bool × Kp × Pr :=
 if K = 1 then ((k.minted i (p.upE i) (p.mint i (sideF pl i) (speedF sp)).1.1 (p.mint i (sideF pl i) (speedF sp)).1.2.1 (p.mint i (sideF pl i) (speedF sp)).1.2.2).1, (k.minted i (p.upE i) (p.mint i (sideF pl i) (speedF sp)).1.1 (p.mint i (sideF pl i) (speedF sp)).1.2.1 (p.mint i (sideF pl i) (speedF sp)).1.2.2).2, (p.mint i (sideF pl i) (speedF sp)).2)
 else if K = 2 then
  if k.kn = [] then (true, k, p)
  else
   let j := (pickN n k.kn.length).toNat
   let r := p.destroy i (k.at j).sh (k.at j).nu
   ((k.destroyed j (k.at j).how (p.upE i) r.1).1, (k.destroyed j (k.at j).how (p.upE i) r.1).2, r.2)
 else (true, k,
  if K = 3 then (p.tick i).2 else if K = 4 then (p.snap i).2 else if K = 5 then (p.brk i (pickN n 8) m).2 else if K = 6 then (p.crash i m).2 else if K = 7 then (p.restart i).2
  else if K = 8 then (p.send i).2 else if K = 9 then (p.deliver i n).2 else if K = 10 then (p.drop i n).2 else if K = 11 then (p.double i n).2 else if K = 12 then (p.spoil i n m).2 else p)
theorem pick_is01 (c : Int) : is01 (pickN c 2) := by
 have := pickN_lt c 2 (by omega)
 rcases (by omega : pickN c 2 = 0 ∨ pickN c 2 = 1) with e | e
 ·exact .inl e
 ·exact .inr e
theorem kact_any (bk bp : Nat) (vk : Value) (D : Nat -> Prop) (kp : Kp) (p : Pr) (K sh k m x y : Int) (pl sp : Nat) (t : ByteArray) (w : World) (h : KX w bk bp vk D kp p) (gd : PGd p) (hs : i64B sh) (hk : i64B k) (hp : pl < 4294967296) (hq : sp < 4294967296) (hl : kp.kn.length + 1 <= 3000000) (hkn : ∀ q ∈ kp.kn, i64B q.sh /\ i64B q.nu) :
  Calls Tryz.prog 12 #[.pointer (some ⟨bk, 0, none⟩), acV K sh k m x y pl sp t] w fun e w' => e = .returned (.bool (kAct kp p K (pickN sh 2) k m pl sp).1) /\ KN w w' bk bp vk D (kAct kp p K (pickN sh 2) k m pl sp).2.1 (kAct kp p K (pickN sh 2) k m pl sp).2.2 := by
 by_cases k1 : K = 1
 ·subst k1
  exact kact_mint bk bp vk D kp p sh k m x y pl sp t w _ hs h (fun W hW => minted_any bk bp vk D kp p (pickN sh 2) 1 sh k m x y pl sp t W hW gd (pick_is01 sh) hp hq hl)
 by_cases k2 : K = 2
 ·subst k2
  refine kact_dest bk bp vk D kp p sh k m x y pl sp t w _ hs h (fun W hW => ?_)
  by_cases hn : kp.kn = []
  ·have e : kAct kp p 2 (pickN sh 2) k m pl sp = (true, kp, p) := by simp [kAct, hn]
   rw [e]
   exact destroyed_nil bk bp vk D kp p (pickN sh 2) 2 sh k m x y pl sp t W hW hn
  ·have hlen : 0 < kp.kn.length := List.length_pos_iff.2 hn
   have hb := pickN_lt k kp.kn.length (by omega)
   obtain ⟨n, hN⟩ : ∃ n : Nat, pickN k kp.kn.length = n := ⟨(pickN k kp.kn.length).toNat, by omega⟩
   have hnl : n < kp.kn.length := by omega
   have e : kAct kp p 2 (pickN sh 2) k m pl sp = ((kp.destroyed n kp.kn[n].how (p.upE (pickN sh 2)) (p.destroy (pickN sh 2) kp.kn[n].sh kp.kn[n].nu).1).1, (kp.destroyed n kp.kn[n].how (p.upE (pickN sh 2)) (p.destroy (pickN sh 2) kp.kn[n].sh kp.kn[n].nu).1).2, (p.destroy (pickN sh 2) kp.kn[n].sh kp.kn[n].nu).2) := by
    have ea : kp.at n = kp.kn[n] := by simp [Kp.at, List.getElem?_eq_getElem hnl]
    unfold kAct
    rw [if_neg (by omega), if_pos rfl, if_neg hn, hN]
    simp only [Int.toNat_natCast, ea]
   rw [e]
   have hm := hkn kp.kn[n] (List.getElem_mem hnl)
   exact destroyed_any bk bp vk D kp p (pickN sh 2) 2 sh k m x y pl sp t W n kp.kn[n] hW gd hk (by omega) hN (List.getElem?_eq_getElem hnl) hm.1 hm.2
 unfold kAct
 rw [if_neg k1, if_neg k2]
 by_cases k3 : K = 3
 ·subst k3; exact kact_tick bk bp vk D kp p sh k m x y pl sp t w h gd hs
 by_cases k4 : K = 4
 ·subst k4; exact kact_snap bk bp vk D kp p sh k m x y pl sp t w h gd hs
 by_cases k5 : K = 5
 ·subst k5; exact kact_brk bk bp vk D kp p sh k m x y pl sp t w h hs hk
 by_cases k6 : K = 6
 ·subst k6; exact kact_crash bk bp vk D kp p sh k m x y pl sp t w h hs
 by_cases k7 : K = 7
 ·subst k7; exact kact_restart bk bp vk D kp p sh k m x y pl sp t w h gd hs
 by_cases k8 : K = 8
 ·subst k8; exact kact_send bk bp vk D kp p sh k m x y pl sp t w h gd hs
 by_cases k9 : K = 9
 ·subst k9; exact kact_deliver bk bp vk D kp p sh k m x y pl sp t w h gd hs
 by_cases k10 : K = 10
 ·subst k10; exact kact_drop bk bp vk D kp p sh k m x y pl sp t w h hs
 by_cases k11 : K = 11
 ·subst k11; exact kact_double bk bp vk D kp p sh k m x y pl sp t w h hs
 by_cases k12 : K = 12
 ·subst k12; exact kact_spoil bk bp vk D kp p sh k m x y pl sp t w h hs
 simp only [if_neg k3, if_neg k4, if_neg k5, if_neg k6, if_neg k7, if_neg k8, if_neg k9, if_neg k10, if_neg k11, if_neg k12]
 exact kact_none bk bp vk D kp p K sh k m x y pl sp t w h hs (by omega)
def KnOk (l : List Kn) : Prop := ∀ q ∈ l, i64B q.sh /\ i64B q.nu
theorem mint_ids {p : Pr} (h : PGd p) (i : Int) (pl sp : Nat) : i64B (p.mint i pl sp).1.1 /\ i64B (p.mint i pl sp).1.2.1 := by
 have z : i64B 0 := ⟨by omega, by omega⟩
 unfold Pr.mint
 by_cases hu : p.upE i = 0
 ·rw [if_pos hu]
  obtain ⟨hi, up⟩ := upE_at hu
  obtain ⟨⟨r, g⟩, _⟩ := h.at hi
  obtain ⟨_, _, _, _, _, has, _⟩ := g.has up
  have m0 : 0 <= (p.sh i).ms.m := has.mo.m0
  have m1 : (p.sh i).ms.m <= 65535 := has.mo.m1
  have no := g.no
  unfold Sh.mint
  split
  ·exact ⟨z, z⟩
  split
  ·exact ⟨z, z⟩
  split
  ·exact ⟨⟨by show _ <= ((p.sh i).no : Int); omega, by show ((p.sh i).no : Int) <= _; omega⟩, ⟨by show _ <= (p.sh i).ms.m + 1; omega, by show (p.sh i).ms.m + 1 <= _; omega⟩⟩
  ·exact ⟨z, z⟩
 ·rw [if_neg hu]
  exact ⟨z, z⟩
theorem minted_ok {k : Kp} (h : KnOk k.kn) (i up x y e : Int) (hx : i64B x) (hy : i64B y) : KnOk (k.minted i up x y e).2.kn /\ (k.minted i up x y e).2.kn.length <= k.kn.length + 1 := by
 unfold Kp.minted
 split
 ·exact ⟨h, by show k.kn.length <= _; omega⟩
 split
 ·have e : (k.doubt i).kn = k.kn := by unfold Kp.doubt; split <;> rfl
  show KnOk (k.doubt i).kn /\ (k.doubt i).kn.length <= _
  rw [e]
  exact ⟨h, by omega⟩
 split
 ·exact ⟨h, by show k.kn.length <= _; omega⟩
 split
 ·exact ⟨h, by show k.kn.length <= _; omega⟩
 ·refine ⟨fun q hq => ?_, by show (k.kn ++ [_]).length <= _; simp⟩
  rcases List.mem_append.1 (show q ∈ k.kn ++ [(⟨x, y, 1⟩ : Kn)] from hq) with hq | hq
  ·exact h q hq
  ·obtain rfl : q = ⟨x, y, 1⟩ := by simpa using hq
   exact ⟨hx, hy⟩
theorem how_ok {k : Kp} (h : KnOk k.kn) (n : Nat) (v : Int) : KnOk (k.how n v).kn /\ (k.how n v).kn.length <= k.kn.length + 1 := by
 refine ⟨fun q hq => ?_, by show (k.kn.modify n _).length <= _; rw [List.length_modify]; omega⟩
 have hq' : q ∈ k.kn.modify n (fun q => { q with how := v }) := hq
 obtain ⟨j, hj, rfl⟩ := List.getElem_of_mem hq'
 rw [List.length_modify] at hj
 rw [List.getElem_modify]
 have := h k.kn[j] (List.getElem_mem hj)
 split <;> exact this
theorem destroyed_ok {k : Kp} (h : KnOk k.kn) (n : Nat) (q up e : Int) : KnOk (k.destroyed n q up e).2.kn /\ (k.destroyed n q up e).2.kn.length <= k.kn.length + 1 := by
 have z : KnOk k.kn /\ k.kn.length <= k.kn.length + 1 := ⟨h, by omega⟩
 unfold Kp.destroyed
 split
 ·exact z
 split
 ·exact how_ok h n 2
 split
 ·show KnOk (if q = 1 then k.how n 3 else k).kn /\ (if q = 1 then k.how n 3 else k).kn.length <= _
  split
  ·exact how_ok h n 3
  ·exact z
 ·exact z
theorem kAct_keep {k : Kp} {p : Pr} (gd : PGd p) (h : KnOk k.kn) (K i n m : Int) (pl sp : Nat) (hm : i64B m) (hp : pl < 4294967296) (hq : sp < 4294967296) :
  PKeep p (kAct k p K i n m pl sp).2.2 /\ KnOk (kAct k p K i n m pl sp).2.1.kn /\ (kAct k p K i n m pl sp).2.1.kn.length <= k.kn.length + 1 := by
 have z : KnOk k.kn /\ k.kn.length <= k.kn.length + 1 := ⟨h, by omega⟩
 unfold kAct
 by_cases k1 : K = 1
 ·rw [if_pos k1]
  have ids := mint_ids gd i (sideF pl i) (speedF sp)
  exact ⟨mint_keep gd i _ _ (sideF_lt hp i) (speedF_ok hq).2, minted_ok h i _ _ _ _ ids.1 ids.2⟩
 rw [if_neg k1]
 by_cases k2 : K = 2
 ·rw [if_pos k2]
  by_cases hn : k.kn = []
  ·rw [if_pos hn]
   exact ⟨PKeep.refl gd, z⟩
  ·rw [if_neg hn]
   exact ⟨destroy_keep gd i _ _, destroyed_ok h _ _ _ _⟩
 rw [if_neg k2]
 refine ⟨?_, z⟩
 dsimp only
 by_cases k3 : K = 3
 ·rw [if_pos k3]; exact tick_keep gd i
 rw [if_neg k3]
 by_cases k4 : K = 4
 ·rw [if_pos k4]; exact snap_keep gd i
 rw [if_neg k4]
 by_cases k5 : K = 5
 ·rw [if_pos k5]; exact brk_keep gd i _ m (by have := pickN_lt n 8 (by omega); omega) hm
 rw [if_neg k5]
 by_cases k6 : K = 6
 ·rw [if_pos k6]; exact crash_keep gd i m
 rw [if_neg k6]
 by_cases k7 : K = 7
 ·rw [if_pos k7]; exact restart_keep gd i
 rw [if_neg k7]
 by_cases k8 : K = 8
 ·rw [if_pos k8]; exact send_keep gd i
 rw [if_neg k8]
 by_cases k9 : K = 9
 ·rw [if_pos k9]; exact deliver_keep gd i n
 rw [if_neg k9]
 by_cases k10 : K = 10
 ·rw [if_pos k10]; exact drop_keep gd i n
 rw [if_neg k10]
 by_cases k11 : K = 11
 ·rw [if_pos k11]; exact double_keep gd i n
 rw [if_neg k11]
 by_cases k12 : K = 12
 ·rw [if_pos k12]; exact spoil_keep gd i n m
 rw [if_neg k12]
 exact PKeep.refl gd
structure Dd where
 sh : Int
 nu : Int
def Dd.cells (d : Dd) : List Value := [.int .i64 d.sh, .int .i64 d.nu]
def OwnD (B : Nat) (w : World) (v : Value) (l : List Dd) : Prop := w.ownsRow B 32 2 v l.length (l.flatMap Dd.cells)
theorem OwnD.nil (B : Nat) (w : World) : OwnD B w (.slice none 0 0) [] := World.ownsRow_nil w B _ 2
theorem infoID : ∃ i, Tryz.prog.info? 32 = some i /\ i.zero = some (.agg #[.int .i64 0, .int .i64 0]) /\ i.size = 2 /\ i.bytes = 16 := info_parts (by kernel_rfl)
theorem flatD_at (l : List Dd) (k j : Nat) (hk : k < l.length) (hj : j < 2) : (l.flatMap Dd.cells)[2 * k + j]? = l[k].cells[j]? := by
 induction l generalizing k with
 | nil => simp at hk
 | cons i t ih =>
  rw [List.flatMap_cons]
  have hi : i.cells.length = 2 := rfl
  cases k with
  | zero => rw [List.getElem?_append_left (by omega)]; simp
  | succ k =>
   rw [List.getElem?_append_right (by omega), hi, show 2 * (k + 1) + j - 2 = 2 * k + j by omega, ih k (by simpa using hk)]
   simp
theorem wp_appD {w : World} {ops : Array Oper} {rest : List Oper} {o : Oper} {a : Act} {Q : Exit -> Act -> World -> Prop} (hgd : o.guard = none) (s x : Operand)
  (ho : o.op = .call { callee := .builtin .append, args := #[s, x], argTypes := #[67, 67] })
  (B : Nat) (v : Value) (l : List Dd) (hs : a.eval s = v) (hown : OwnD B w v l) (ad : Addr) (i : Dd) (hx : a.eval x = .slice (some ad) 1 1)
  (hnews : ∀ j u, i.cells[j]? = some u -> w.cell? (ad.add j) = some u) (hl : l.length + 1 <= 3000000) (hB : B <= w.heap.size)
  (h : ∀ v' w', OwnD B w' v' (l ++ [i]) -> w.grownBy w' v.ownBlock -> (v'.ownBlock = v.ownBlock ∨ v'.ownBlock = some w.heap.size) -> wpList Tryz.prog ops Q rest (a.put o.dst v') w') : wpList Tryz.prog ops Q (o :: rest) a w := by
 obtain ⟨i0, hi, hz0, hz1, hz2⟩ := infoID
 refine wpList_append_own_at w hgd s x _ ho B 32 i0 _ 2 16 Tryz.underlying67 hi hz0 hz1 hz2 rfl (by decide) v l.length (l.flatMap Dd.cells) hs hown ad 1 1 i.cells hx rfl hnews ?_ ?_ ?_ hB ?_
 ·intro u hu; simp [Dd.cells] at hu; rcases hu with rfl | rfl <;> rfl
 ·unfold maxLen; omega
 ·omega
 ·intro v' w' h1 h2 _ h4
  refine h v' w' ?_ h2 h4
  unfold OwnD; rw [List.length_append, List.flatMap_append]; simpa using h1
def It.dd (i : It) : Dd := ⟨i.sh, i.nu⟩
def Pr.there (p : Pr) (i : Int) : List Dd := (p.world i).map It.dd ++ ((p.outbox i).filter (fun e => decide ((p.marks (1 - i)).n < e.sq))).map (fun e => e.it.dd)
def Pr.places (p : Pr) : List Dd × Bool := if p.upE 0 = 0 /\ p.upE 1 = 0 then (p.there 0 ++ p.there 1, true) else ([], false)
theorem side_first : sideF 1065353216 0 = 3217031168 := by kernel_rfl
theorem speed_first : speedF 1073741824 = 1073741824 := by kernel_rfl
theorem jrn_room {s : Sh} {r : Rc} (hu : s.dk.un = 0) (hc : s.ct = 0) (hl : ((s.dk.f0.length : Int) + ((frm r).length : Int) <= s.cJ)) :
  s.jrn r = (0, (s.on { s.dk with f0 := s.dk.f0 ++ frm r, l0 := (s.dk.f0 ++ frm r).length }).doR r) := by
 have ap : s.dk.append s.ct (frm r) = ({ s.dk with f0 := s.dk.f0 ++ frm r }, true) := by
  unfold Dk.append Dk.act
  rw [if_pos hc, if_pos hu]
 have sy : ({ s.dk with f0 := s.dk.f0 ++ frm r } : Dk).sync s.ct = ({ s.dk with f0 := s.dk.f0 ++ frm r, l0 := (s.dk.f0 ++ frm r).length }, true) := by
  unfold Dk.sync Dk.act Dk.put Dk.file
  simp [hc, hu]
 have fl : s.dk.file s.ct = s.dk.f0 := if_pos hc
 unfold Sh.jrn
 rw [ap, fl]
 simp only [sy]
 rw [if_neg (by omega), if_neg (by simp), if_neg (by simp)]
theorem new_up (cI cO cJ : Int) : (Pr.new cI cO cJ).upE 0 = 0 /\ (Pr.new cI cO cJ).upE 1 = 0 := by
 constructor <;> rfl
theorem sh1_eq (no : Nat) (cI cO cJ : Int) : sh1 no cI cO cJ = ⟨no, cI, cO, cJ, dk1, true, 0, [], [], base1.mks⟩ := by kernel_rfl
theorem dk1_len : dk1.f0.length = (frm base1).length := by kernel_rfl
theorem frm_first : (frm base1).length = 17 := by kernel_rfl
def it1 : It := ⟨0, 1, 3217031168, 1073741824⟩
def rec1 : Rc := ⟨1, 0, it1, mk0, [], []⟩
def sh2 (cI cO cJ : Int) : Sh := ⟨0, cI, cO, cJ, ⟨frm base1 ++ frm rec1, (frm base1 ++ frm rec1).length, [], 0, 0, 0⟩, true, 0, [it1], [], ⟨1, 1, 0, 0, 0⟩⟩
theorem mint_first (cI cO cJ : Int) (hI : 1 <= cI) (hJ : 400 <= cJ) : (sh1 0 cI cO cJ).mint 3217031168 1073741824 = ((0, 1, 0), sh2 cI cO cJ) := by
 rw [sh1_eq]
 have nr : (nearB 3217031168 && nearB 1073741824) = true := by kernel_rfl
 have sd : sideB 3217031168 = 0 := by kernel_rfl
 have fl : (frm rec1).length = 16 := by kernel_rfl
 have jr : (⟨0, cI, cO, cJ, dk1, true, 0, [], [], base1.mks⟩ : Sh).jrn rec1 = (0, sh2 cI cO cJ) := by
  rw [jrn_room rfl rfl (by rw [fl, dk1_len, frm_first]; show (17 : Int) + 16 <= cJ; omega)]
  kernel_rfl
 unfold Sh.mint
 rw [if_neg (by
  rintro (e | e)
  ·rw [nr] at e; cases e
  ·exact e sd), if_neg (by
  rintro (e | e)
  ·have : cI <= 0 := e
   omega
  ·have : (0 : Int) = 65535 := e
   omega)]
 have em : (⟨0, cI, cO, cJ, dk1, true, 0, [], [], base1.mks⟩ : Sh).mintRec 3217031168 1073741824 = rec1 := by kernel_rfl
 rw [em, jr, if_pos rfl]
 rfl
def it2 : It := ⟨0, 1, 1056964608, 1073741824⟩
def sh3 (cI cO cJ : Int) : Sh := ⟨0, cI, cO, cJ, ⟨(frm base1 ++ frm rec1) ++ frm tickRec, ((frm base1 ++ frm rec1) ++ frm tickRec).length, [], 0, 0, 0⟩, true, 0, [], [⟨1, it2⟩], ⟨1, 1, 1, 0, 0⟩⟩
def sh4 (cI cO cJ : Int) : Sh := ⟨1, cI, cO, cJ, ⟨frm base1 ++ frm ⟨4, 1, it2, mk0, [], []⟩, (frm base1 ++ frm ⟨4, 1, it2, mk0, [], []⟩).length, [], 0, 0, 0⟩, true, 0, [it2], [], ⟨1, 0, 0, 0, 1⟩⟩
theorem drift_first {s : Sh} (hn : s.no = 0) (hl : s.mayLeave = true) : s.driftOne it1 = s.leave it2 := by
 have e1 : addF it1.pl it1.sp = 1056964608 := by kernel_rfl
 have e2 : nearB 1056964608 = true := by kernel_rfl
 have e3 : sideB 1056964608 = 1 := by kernel_rfl
 unfold Sh.driftOne
 rw [e1, if_neg (by rw [e2]; simp), if_neg (by rw [e3, hn]; simp), if_pos hl]
 rfl
theorem tick_first (cI cO cJ : Int) (hO : 1 <= cO) (hJ : 400 <= cJ) : (sh2 cI cO cJ).jrn tickRec = (0, sh3 cI cO cJ) := by
 have fl : (frm tickRec).length = 5 := by kernel_rfl
 have f2 : (frm base1 ++ frm rec1).length = 33 := by kernel_rfl
 rw [jrn_room rfl rfl (by rw [fl, show ((sh2 cI cO cJ).dk.f0.length : Int) = 33 from by show (((frm base1 ++ frm rec1).length : Nat) : Int) = 33; rw [f2]; rfl]; show (33 : Int) + 5 <= cJ; omega)]
 have dt : ∀ s : Sh, s.th = [it1] -> s.doR tickRec = s.driftOne it1 := fun s hs => by
  show (srtTh s.th).foldl Sh.driftOne s = _
  rw [hs]
  rfl
 rw [dt _ rfl, drift_first rfl (by simp [Sh.mayLeave, sh2, Sh.on]; omega)]
 rfl
theorem hear_first (cI cO cJ : Int) (hI : 1 <= cI) (hJ : 400 <= cJ) : (sh1 1 cI cO cJ).hear (crossB ⟨1, it2⟩) = ((0, ackB 1), sh4 cI cO cJ) := by
 rw [sh1_eq]
 have k7 : (datP (crossB ⟨1, it2⟩)).kind = 7 := by kernel_rfl
 have k1 : (datP (crossB ⟨1, it2⟩)).seq = 1 := by kernel_rfl
 have ki : (datP (crossB ⟨1, it2⟩)).it = it2 := by kernel_rfl
 have fl : (frm ⟨4, 1, it2, mk0, [], []⟩).length = 18 := by kernel_rfl
 have ma : (⟨1, cI, cO, cJ, dk1, true, 0, [], [], base1.mks⟩ : Sh).mayArr it2 = true := by
  have e3 : sideB it2.pl = 1 := by kernel_rfl
  unfold Sh.mayArr
  rw [e3]
  simp [it2, hasTh]
  omega
 have jr : (⟨1, cI, cO, cJ, dk1, true, 0, [], [], base1.mks⟩ : Sh).jrn ⟨4, 1, it2, mk0, [], []⟩ = (0, sh4 cI cO cJ) := by
  rw [jrn_room rfl rfl (by rw [fl, dk1_len, frm_first]; show (17 : Int) + 18 <= cJ; omega)]
  kernel_rfl
 unfold Sh.hear
 rw [if_pos k7, k1, ki]
 unfold Sh.hearCross
 rw [if_neg (by show ¬ (1 : Int) <= 0; omega), if_neg (by
  rintro (e | e)
  ·have : (0 : Int) + 1 < 1 := e
   omega
  ·rw [ma] at e; cases e), jr, if_pos rfl]
 rfl
def fellB (m o n : Mk) : Bool := decide (m.s < o.s) || decide (m.a < o.a) || decide (m.n < o.n) || decide (m.m < o.m) || decide (m.a > n.n) || decide (n.n > m.s)
def Kp.rises (k : Kp) (a b : Mk) : Bool × Kp := if fellB a k.m0 b = true then (false, k) else if fellB b k.m1 a = true then (false, k) else (true, { k with m0 := a, m1 := b })
theorem rises_any (bk bp : Nat) (vk : Value) (D : Nat -> Prop) (kp : Kp) (p : Pr) (w : World) (h : KX w bk bp vk D kp p) (h0 : p.upE 0 = 0) (h1 : p.upE 1 = 0) :
  Calls Tryz.prog 66 #[.pointer (some ⟨bk, 0, none⟩)] w fun e w' => e = .returned (.bool (kp.rises (p.marks 0) (p.marks 1)).1) /\ KN w w' bk bp vk D (kp.rises (p.marks 0) (p.marks 1)).2 p := by
 have H := Hid.mk' h
 have c0 := h.at_.c 0 _ rfl
 have hlt := h.at_.lt
 have C0 := Hid.mk' fun W (g : w.grownBy W none) => marks_px (h.grown g).pw 0
 have C1 := Hid.mk' fun W (g : w.grownBy W none) => marks_px (h.grown g).pw 1
 rw [h0] at C0
 rw [h1] at C1
 unfold mkV at C0 C1
 generalize p.marks 0 = a at C0 ⊢
 generalize p.marks 1 = b at C1 ⊢
 clear h h0 h1
 go_enter Tryz.func66, Tryz.ntmps66
 go_wp2_with fail
 refine Calls.mono (C0.out _ (grownBy_refl _ _)) ?_
 rintro e w1 ⟨rfl, g1⟩
 have G1 := Hid.mk' (g1.trans (World.grownBy_alloc w1 (.cells #[.int .i64 a.g, .int .i64 a.m, .int .i64 a.s, .int .i64 a.a, .int .i64 a.n] 44) none))
 have A1 := Hid.mk' (At.new w1 [.int .i64 a.g, .int .i64 a.m, .int .i64 a.s, .int .i64 a.a, .int .i64 a.n] 44)
 have c1 := G1.out.cell c0 (by simp)
 clear g1
 go_wp2_with fail
 refine Calls.mono (C1.out _ G1.out) ?_
 rintro e w2 ⟨rfl, g2⟩
 have G2 := Hid.mk' (G1.out.trans g2)
 have A2 := Hid.mk' (A1.out.grown g2)
 have hz : w1.heap.size < w2.heap.size := by have := g2.size; simp at this; omega
 have A3 := Hid.mk' (A2.out.alloc (.cells #[.int .i64 b.g, .int .i64 b.m, .int .i64 b.s, .int .i64 b.a, .int .i64 b.n] 44))
 have B3 := Hid.mk' (At.new w2 [.int .i64 b.g, .int .i64 b.m, .int .i64 b.s, .int .i64 b.a, .int .i64 b.n] 44)
 have G3 := Hid.mk' ((G2.out.trans (World.grownBy_alloc w2 (.cells #[.int .i64 b.g, .int .i64 b.m, .int .i64 b.s, .int .i64 b.a, .int .i64 b.n] 44) none)).trans (World.grownBy_alloc (w2.alloc (.cells #[.int .i64 b.g, .int .i64 b.m, .int .i64 b.s, .int .i64 b.a, .int .i64 b.n] 44)) (.cells #[.int .i64 a.g, .int .i64 a.m, .int .i64 a.s, .int .i64 a.a, .int .i64 a.n, .int .i64 b.g, .int .i64 b.m, .int .i64 b.s, .int .i64 b.a, .int .i64 b.n] 45) none))
 have N3 := Hid.mk' (At.new (w2.alloc (.cells #[.int .i64 b.g, .int .i64 b.m, .int .i64 b.s, .int .i64 b.a, .int .i64 b.n] 44)) [.int .i64 a.g, .int .i64 a.m, .int .i64 a.s, .int .i64 a.a, .int .i64 a.n, .int .i64 b.g, .int .i64 b.m, .int .i64 b.s, .int .i64 b.a, .int .i64 b.n] 45)
 have x0 := A3.out.c 0 _ rfl
 have x1 := A3.out.c 1 _ rfl
 have x2 := A3.out.c 2 _ rfl
 have x3 := A3.out.c 3 _ rfl
 have x4 := A3.out.c 4 _ rfl
 clear g2 c1
 go_wp2_with fail
 clear x0 x1 x2 x3 x4
 go_loopw [8] (fun i wr => ∃ k : Nat, k <= 2 /\ i = .int .i64 k /\ ((w2.alloc (.cells #[.int .i64 b.g, .int .i64 b.m, .int .i64 b.s, .int .i64 b.a, .int .i64 b.n] 44)).alloc (.cells #[.int .i64 a.g, .int .i64 a.m, .int .i64 a.s, .int .i64 a.a, .int .i64 a.n, .int .i64 b.g, .int .i64 b.m, .int .i64 b.s, .int .i64 b.a, .int .i64 b.n] 45)).grownBy wr none /\ (1 <= k -> fellB a kp.m0 b = false) /\ (2 <= k -> fellB b kp.m1 a = false)) (fun i _ => 2 - (intOf i).toNat)
 case atStart => exact ⟨0, by omega, rfl, grownBy_refl _ _, fun h => by omega, fun h => by omega⟩
 case round =>
  obtain ⟨k, hk, rfl, gk, f0, f1⟩ := hrel
  have GK := Hid.mk' gk
  have NK := Hid.mk' (N3.out.grown gk)
  have KK := Hid.mk' (H.out.at_.grown (G3.out.trans gk))
  have F0 := Hid.mk' f0
  have F1 := Hid.mk' f1
  clear gk f0 f1
  have NL : Hid (At wr (w2.heap.size + 1) [.int .i64 a.g, .int .i64 a.m, .int .i64 a.s, .int .i64 a.a, .int .i64 a.n, .int .i64 b.g, .int .i64 b.m, .int .i64 b.s, .int .i64 b.a, .int .i64 b.n]) := by
   have := NK.out
   exact Hid.mk' (by simpa using this)
  have nlt := NL.out.lt
  have nz1 : w2.heap.size < wr.heap.size := by omega
  have nz2 : ¬ w2.heap.size = wr.heap.size := by omega
  have klt := KK.out.lt
  have n0 := NL.out.c 0 _ rfl
  have n1 := NL.out.c 1 _ rfl
  have n2 := NL.out.c 2 _ rfl
  have n3 := NL.out.c 3 _ rfl
  have n4 := NL.out.c 4 _ rfl
  have n5 := NL.out.c 5 _ rfl
  have n6 := NL.out.c 6 _ rfl
  have n7 := NL.out.c 7 _ rfl
  have n8 := NL.out.c 8 _ rfl
  have n9 := NL.out.c 9 _ rfl
  have q4 := KK.out.c 4 _ rfl
  have q5 := KK.out.c 5 _ rfl
  have q6 := KK.out.c 6 _ rfl
  have q7 := KK.out.c 7 _ rfl
  have q8 := KK.out.c 8 _ rfl
  have q9 := KK.out.c 9 _ rfl
  have q10 := KK.out.c 10 _ rfl
  have q11 := KK.out.c 11 _ rfl
  have q12 := KK.out.c 12 _ rfl
  have q13 := KK.out.c 13 _ rfl
  have fK := KK.out.f
  rcases (by omega : k = 0 ∨ k = 1 ∨ k = 2) with rfl | rfl | rfl
  ·by_cases d1 : a.s < kp.m0.s
   ·have t1 : decide (a.s < kp.m0.s) = true := decide_eq_true d1
    have fe : fellB a kp.m0 b = true := by simp [fellB, d1]
    have E : Hid (kp.rises a b = (false, kp)) := Hid.mk' (by unfold Kp.rises; rw [if_pos fe])
    clear fe
    go_wp2
    go_ret
    rw [E.out]
    exact ⟨rfl, H.out.grew (G3.out.trans (((GK.out.trans (World.grownBy_alloc _ _ none)).trans (World.grownBy_alloc _ _ none)).trans (World.grownBy_alloc _ _ none)))⟩
   have t1 : decide (a.s < kp.m0.s) = false := decide_eq_false d1
   by_cases d2 : a.a < kp.m0.a
   ·have t2 : decide (a.a < kp.m0.a) = true := decide_eq_true d2
    have fe : fellB a kp.m0 b = true := by simp [fellB, d2]
    have E : Hid (kp.rises a b = (false, kp)) := Hid.mk' (by unfold Kp.rises; rw [if_pos fe])
    clear fe
    go_wp2
    go_ret
    rw [E.out]
    exact ⟨rfl, H.out.grew (G3.out.trans (((GK.out.trans (World.grownBy_alloc _ _ none)).trans (World.grownBy_alloc _ _ none)).trans (World.grownBy_alloc _ _ none)))⟩
   have t2 : decide (a.a < kp.m0.a) = false := decide_eq_false d2
   by_cases d3 : a.n < kp.m0.n
   ·have t3 : decide (a.n < kp.m0.n) = true := decide_eq_true d3
    have fe : fellB a kp.m0 b = true := by simp [fellB, d3]
    have E : Hid (kp.rises a b = (false, kp)) := Hid.mk' (by unfold Kp.rises; rw [if_pos fe])
    clear fe
    go_wp2
    go_ret
    rw [E.out]
    exact ⟨rfl, H.out.grew (G3.out.trans (((GK.out.trans (World.grownBy_alloc _ _ none)).trans (World.grownBy_alloc _ _ none)).trans (World.grownBy_alloc _ _ none)))⟩
   have t3 : decide (a.n < kp.m0.n) = false := decide_eq_false d3
   by_cases d4 : a.m < kp.m0.m
   ·have t4 : decide (a.m < kp.m0.m) = true := decide_eq_true d4
    have fe : fellB a kp.m0 b = true := by simp [fellB, d4]
    have E : Hid (kp.rises a b = (false, kp)) := Hid.mk' (by unfold Kp.rises; rw [if_pos fe])
    clear fe
    go_wp2
    go_ret
    rw [E.out]
    exact ⟨rfl, H.out.grew (G3.out.trans (((GK.out.trans (World.grownBy_alloc _ _ none)).trans (World.grownBy_alloc _ _ none)).trans (World.grownBy_alloc _ _ none)))⟩
   have t4 : decide (a.m < kp.m0.m) = false := decide_eq_false d4
   by_cases d5 : b.n < a.a
   ·have t5 : decide (b.n < a.a) = true := decide_eq_true d5
    have fe : fellB a kp.m0 b = true := by simp [fellB, d5]
    have E : Hid (kp.rises a b = (false, kp)) := Hid.mk' (by unfold Kp.rises; rw [if_pos fe])
    clear fe
    go_wp2
    go_ret
    rw [E.out]
    exact ⟨rfl, H.out.grew (G3.out.trans (((GK.out.trans (World.grownBy_alloc _ _ none)).trans (World.grownBy_alloc _ _ none)).trans (World.grownBy_alloc _ _ none)))⟩
   have t5 : decide (b.n < a.a) = false := decide_eq_false d5
   by_cases d6 : a.s < b.n
   ·have t6 : decide (a.s < b.n) = true := decide_eq_true d6
    have fe : fellB a kp.m0 b = true := by simp [fellB, d6]
    have E : Hid (kp.rises a b = (false, kp)) := Hid.mk' (by unfold Kp.rises; rw [if_pos fe])
    clear fe
    go_wp2
    go_ret
    rw [E.out]
    exact ⟨rfl, H.out.grew (G3.out.trans (((GK.out.trans (World.grownBy_alloc _ _ none)).trans (World.grownBy_alloc _ _ none)).trans (World.grownBy_alloc _ _ none)))⟩
   have t6 : decide (a.s < b.n) = false := decide_eq_false d6
   have fe : Hid (fellB a kp.m0 b = false) := Hid.mk' (by unfold fellB; simp only [Bool.or_eq_false_iff, decide_eq_false_iff_not]; exact ⟨⟨⟨⟨⟨d1, d2⟩, d3⟩, d4⟩, d5⟩, d6⟩)
   go_wp2
   refine ⟨⟨1, by omega, by go_num, ((GK.out.trans (World.grownBy_alloc _ _ none)).trans (World.grownBy_alloc _ _ none)).trans (World.grownBy_alloc _ _ none), fun _ => fe.out, fun h => by omega⟩, by simp [intOf]⟩
  ·by_cases d1 : b.s < kp.m1.s
   ·have t1 : decide (b.s < kp.m1.s) = true := decide_eq_true d1
    have fe : fellB b kp.m1 a = true := by simp [fellB, d1]
    have E : Hid (kp.rises a b = (false, kp)) := Hid.mk' (by have := F0.out (by omega); unfold Kp.rises; rw [if_neg (by rw [this]; simp), if_pos fe])
    clear fe
    go_wp2
    go_ret
    rw [E.out]
    exact ⟨rfl, H.out.grew (G3.out.trans (((GK.out.trans (World.grownBy_alloc _ _ none)).trans (World.grownBy_alloc _ _ none)).trans (World.grownBy_alloc _ _ none)))⟩
   have t1 : decide (b.s < kp.m1.s) = false := decide_eq_false d1
   by_cases d2 : b.a < kp.m1.a
   ·have t2 : decide (b.a < kp.m1.a) = true := decide_eq_true d2
    have fe : fellB b kp.m1 a = true := by simp [fellB, d2]
    have E : Hid (kp.rises a b = (false, kp)) := Hid.mk' (by have := F0.out (by omega); unfold Kp.rises; rw [if_neg (by rw [this]; simp), if_pos fe])
    clear fe
    go_wp2
    go_ret
    rw [E.out]
    exact ⟨rfl, H.out.grew (G3.out.trans (((GK.out.trans (World.grownBy_alloc _ _ none)).trans (World.grownBy_alloc _ _ none)).trans (World.grownBy_alloc _ _ none)))⟩
   have t2 : decide (b.a < kp.m1.a) = false := decide_eq_false d2
   by_cases d3 : b.n < kp.m1.n
   ·have t3 : decide (b.n < kp.m1.n) = true := decide_eq_true d3
    have fe : fellB b kp.m1 a = true := by simp [fellB, d3]
    have E : Hid (kp.rises a b = (false, kp)) := Hid.mk' (by have := F0.out (by omega); unfold Kp.rises; rw [if_neg (by rw [this]; simp), if_pos fe])
    clear fe
    go_wp2
    go_ret
    rw [E.out]
    exact ⟨rfl, H.out.grew (G3.out.trans (((GK.out.trans (World.grownBy_alloc _ _ none)).trans (World.grownBy_alloc _ _ none)).trans (World.grownBy_alloc _ _ none)))⟩
   have t3 : decide (b.n < kp.m1.n) = false := decide_eq_false d3
   by_cases d4 : b.m < kp.m1.m
   ·have t4 : decide (b.m < kp.m1.m) = true := decide_eq_true d4
    have fe : fellB b kp.m1 a = true := by simp [fellB, d4]
    have E : Hid (kp.rises a b = (false, kp)) := Hid.mk' (by have := F0.out (by omega); unfold Kp.rises; rw [if_neg (by rw [this]; simp), if_pos fe])
    clear fe
    go_wp2
    go_ret
    rw [E.out]
    exact ⟨rfl, H.out.grew (G3.out.trans (((GK.out.trans (World.grownBy_alloc _ _ none)).trans (World.grownBy_alloc _ _ none)).trans (World.grownBy_alloc _ _ none)))⟩
   have t4 : decide (b.m < kp.m1.m) = false := decide_eq_false d4
   by_cases d5 : a.n < b.a
   ·have t5 : decide (a.n < b.a) = true := decide_eq_true d5
    have fe : fellB b kp.m1 a = true := by simp [fellB, d5]
    have E : Hid (kp.rises a b = (false, kp)) := Hid.mk' (by have := F0.out (by omega); unfold Kp.rises; rw [if_neg (by rw [this]; simp), if_pos fe])
    clear fe
    go_wp2
    go_ret
    rw [E.out]
    exact ⟨rfl, H.out.grew (G3.out.trans (((GK.out.trans (World.grownBy_alloc _ _ none)).trans (World.grownBy_alloc _ _ none)).trans (World.grownBy_alloc _ _ none)))⟩
   have t5 : decide (a.n < b.a) = false := decide_eq_false d5
   by_cases d6 : b.s < a.n
   ·have t6 : decide (b.s < a.n) = true := decide_eq_true d6
    have fe : fellB b kp.m1 a = true := by simp [fellB, d6]
    have E : Hid (kp.rises a b = (false, kp)) := Hid.mk' (by have := F0.out (by omega); unfold Kp.rises; rw [if_neg (by rw [this]; simp), if_pos fe])
    clear fe
    go_wp2
    go_ret
    rw [E.out]
    exact ⟨rfl, H.out.grew (G3.out.trans (((GK.out.trans (World.grownBy_alloc _ _ none)).trans (World.grownBy_alloc _ _ none)).trans (World.grownBy_alloc _ _ none)))⟩
   have t6 : decide (b.s < a.n) = false := decide_eq_false d6
   have fe : Hid (fellB b kp.m1 a = false) := Hid.mk' (by unfold fellB; simp only [Bool.or_eq_false_iff, decide_eq_false_iff_not]; exact ⟨⟨⟨⟨⟨d1, d2⟩, d3⟩, d4⟩, d5⟩, d6⟩)
   go_wp2
   refine ⟨⟨2, by omega, by go_num, ((GK.out.trans (World.grownBy_alloc _ _ none)).trans (World.grownBy_alloc _ _ none)).trans (World.grownBy_alloc _ _ none), fun _ => F0.out (by omega), fun _ => fe.out⟩, by simp [intOf]⟩
  ·have E : Hid (kp.rises a b = (true, { kp with m0 := a, m1 := b })) := Hid.mk' (by have u0 := F0.out (by omega); have u1 := F1.out (by omega); unfold Kp.rises; rw [if_neg (by rw [u0]; simp), if_neg (by rw [u1]; simp)])
   go_wp2
   go_ret
   rw [E.out]
   have X : KM w wr bk bp vk D vk kp p := KX.kn1 (H.out.grown (G3.out.trans GK.out)) (KS.grown (G3.out.trans GK.out))
   exact ⟨rfl, ((((((((((X.put (k' := { kp with m0 := ⟨a.g, kp.m0.m, kp.m0.s, kp.m0.a, kp.m0.n⟩, m1 := ⟨kp.m1.g, kp.m1.m, kp.m1.s, kp.m1.a, kp.m1.n⟩ }) 4 (.int .i64 a.g) (by omega) rfl rfl).put (k' := { kp with m0 := ⟨a.g, a.m, kp.m0.s, kp.m0.a, kp.m0.n⟩, m1 := ⟨kp.m1.g, kp.m1.m, kp.m1.s, kp.m1.a, kp.m1.n⟩ }) 5 (.int .i64 a.m) (by omega) rfl rfl).put (k' := { kp with m0 := ⟨a.g, a.m, a.s, kp.m0.a, kp.m0.n⟩, m1 := ⟨kp.m1.g, kp.m1.m, kp.m1.s, kp.m1.a, kp.m1.n⟩ }) 6 (.int .i64 a.s) (by omega) rfl rfl).put (k' := { kp with m0 := ⟨a.g, a.m, a.s, a.a, kp.m0.n⟩, m1 := ⟨kp.m1.g, kp.m1.m, kp.m1.s, kp.m1.a, kp.m1.n⟩ }) 7 (.int .i64 a.a) (by omega) rfl rfl).put (k' := { kp with m0 := ⟨a.g, a.m, a.s, a.a, a.n⟩, m1 := ⟨kp.m1.g, kp.m1.m, kp.m1.s, kp.m1.a, kp.m1.n⟩ }) 8 (.int .i64 a.n) (by omega) rfl rfl).put (k' := { kp with m0 := ⟨a.g, a.m, a.s, a.a, a.n⟩, m1 := ⟨b.g, kp.m1.m, kp.m1.s, kp.m1.a, kp.m1.n⟩ }) 9 (.int .i64 b.g) (by omega) rfl rfl).put (k' := { kp with m0 := ⟨a.g, a.m, a.s, a.a, a.n⟩, m1 := ⟨b.g, b.m, kp.m1.s, kp.m1.a, kp.m1.n⟩ }) 10 (.int .i64 b.m) (by omega) rfl rfl).put (k' := { kp with m0 := ⟨a.g, a.m, a.s, a.a, a.n⟩, m1 := ⟨b.g, b.m, b.s, kp.m1.a, kp.m1.n⟩ }) 11 (.int .i64 b.s) (by omega) rfl rfl).put (k' := { kp with m0 := ⟨a.g, a.m, a.s, a.a, a.n⟩, m1 := ⟨b.g, b.m, b.s, b.a, kp.m1.n⟩ }) 12 (.int .i64 b.a) (by omega) rfl rfl).put (k' := { kp with m0 := ⟨a.g, a.m, a.s, a.a, a.n⟩, m1 := ⟨b.g, b.m, b.s, b.a, b.n⟩ }) 13 (.int .i64 b.n) (by omega) rfl rfl).kn⟩
section
variable (cI cO cJ : Int)
theorem kept_mint (hI : 1 <= cI) (hJ : 400 <= cJ) : (Pr.new cI cO cJ).mint 0 (sideF 1065353216 0) (speedF 1073741824) = ((0, 1, 0), ⟨sh2 cI cO cJ, sh1 1 cI cO cJ, [], []⟩) := by
 rw [side_first, speed_first]
 unfold Pr.mint
 rw [if_pos (new_up cI cO cJ).1, show (Pr.new cI cO cJ).sh 0 = sh1 0 cI cO cJ from rfl, mint_first cI cO cJ hI hJ]
 rfl
theorem kept_tick (hO : 1 <= cO) (hJ : 400 <= cJ) : (⟨sh2 cI cO cJ, sh1 1 cI cO cJ, [], []⟩ : Pr).tick 0 = (0, ⟨sh3 cI cO cJ, sh1 1 cI cO cJ, [], []⟩) := by
 unfold Pr.tick Pr.onUp
 rw [if_pos (by rfl), show (⟨sh2 cI cO cJ, sh1 1 cI cO cJ, [], []⟩ : Pr).sh 0 = sh2 cI cO cJ from rfl]
 show (((sh2 cI cO cJ).jrn tickRec).1, (⟨sh2 cI cO cJ, sh1 1 cI cO cJ, [], []⟩ : Pr).setSh 0 ((sh2 cI cO cJ).jrn tickRec).2) = _
 rw [tick_first cI cO cJ hO hJ]
 rfl
theorem kept_send : (⟨sh3 cI cO cJ, sh1 1 cI cO cJ, [], []⟩ : Pr).send 0 = (0, ⟨sh3 cI cO cJ, sh1 1 cI cO cJ, [], [crossB ⟨1, it2⟩]⟩) := by
 unfold Pr.send
 rw [if_pos (by rfl)]
 rfl
theorem kept_deliver (hI : 1 <= cI) (hJ : 400 <= cJ) : (⟨sh3 cI cO cJ, sh1 1 cI cO cJ, [], [crossB ⟨1, it2⟩]⟩ : Pr).deliver 1 0 = (0, ⟨sh3 cI cO cJ, sh4 cI cO cJ, [ackB 1], []⟩) := by
 have hf := hear_first cI cO cJ hI hJ
 obtain ⟨q, hq⟩ : ∃ q, crossB ⟨1, it2⟩ = q := ⟨_, rfl⟩
 obtain ⟨s, hs⟩ : ∃ s, sh1 1 cI cO cJ = s := ⟨_, rfl⟩
 have up : s.up = true := by rw [<- hs, sh1_eq]
 have an : ackB 1 ≠ [] := ackB_ne 1
 rw [hq, hs] at hf ⊢
 have e1 : (⟨sh3 cI cO cJ, s, [], [q]⟩ : Pr).sh 1 = s := rfl
 have e2 : atK ((⟨sh3 cI cO cJ, s, [], [q]⟩ : Pr).fl 1) 0 = q := rfl
 have e3 : unE ([] : List (List UInt8)) [q] 1 0 = 0 := rfl
 unfold Pr.deliver
 rw [e1, e2, hf, if_neg (by rw [e3]; simp), if_neg (by rw [up]; simp)]
 unfold Pr.reply
 rw [if_neg an]
 rfl
def prK : Pr := ⟨sh3 cI cO cJ, sh4 cI cO cJ, [ackB 1], []⟩
theorem kept_up : (prK cI cO cJ).upE 0 = 0 /\ (prK cI cO cJ).upE 1 = 0 := ⟨rfl, rfl⟩
theorem kept_world : (prK cI cO cJ).world 1 = [it2] := by kernel_rfl
theorem kept_places : (prK cI cO cJ).places = ([⟨0, 1⟩], true) := by kernel_rfl
theorem kept_known : (⟨[], false, false, mk0, mk0⟩ : Kp).minted 0 0 0 1 0 = (true, ⟨[⟨0, 1, 1⟩], false, false, mk0, mk0⟩) := by kernel_rfl
end
end Go.Proofs.YtammnaafdhhjaaaGreat
