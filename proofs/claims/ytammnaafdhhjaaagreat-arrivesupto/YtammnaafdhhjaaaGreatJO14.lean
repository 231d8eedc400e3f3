import Derived.BigQuiet
import Derived.Test.YtammnaafdhhjaaaGreatRows
import Derived.Test.YtammnaafdhhjaaaGreatJW6
import Derived.Test.YtammnaafdhhjaaaGreatJG27
import Derived.Test.YtammnaafdhhjaaaGreatJO4
set_option maxHeartbeats 16000000
set_option maxRecDepth 100000
namespace Go.Proofs.YtammnaafdhhjaaaGreat
open Go.RowKit
theorem ownD_ge {B : Nat} {w : World} {v : Value} {l : List Dd} (h : OwnD B w v l) : ∀ j, v.ownBlock = some j -> B <= j /\ j < w.heap.size := fun j hj => by
 rcases h.2 with ⟨h', _⟩ | ⟨g, cap, cur, h', h1, h2, _⟩
 ·rw [h'] at hj; cases hj
 ·rw [h'] at hj
  injection hj with hj
  subst hj
  exact ⟨h1, (Array.getElem?_eq_some_iff.1 h2).1⟩
theorem ownD_low {B B' : Nat} {w : World} {v : Value} {l : List Dd} (h : OwnD B w v l) (hB : B' <= B) : OwnD B' w v l := by
 refine ⟨h.1, ?_⟩
 rcases h.2 with h' | ⟨g, cap, cur, h', h1, h2⟩
 ·exact .inl h'
 ·exact .inr ⟨g, cap, cur, h', Nat.le_trans hB h1, h2⟩
theorem itm_at {B : Nat} {w : World} {v : Value} {l : List It} (h : OwnI B w v l) : ∃ a c, v = .slice a l.length c /\ (0 < l.length -> ∃ g, a = some ⟨g, 0, none⟩ /\ B <= g /\ g < w.heap.size /\ ∀ k (hk : k < l.length), w.cell? ⟨g, k * 4, none⟩ = some (.int .i64 l[k].sh) /\ w.cell? ⟨g, k * 4 + 1, none⟩ = some (.int .i64 l[k].nu)) := by
 obtain ⟨a, c, rfl, hx⟩ := Lies.of_own h
 refine ⟨a, c, rfl, fun h0 => ?_⟩
 obtain ⟨g, off, rfl, hc⟩ := hx h0
 obtain ⟨rfl, h1, h2⟩ : off = 0 /\ B <= g /\ g < w.heap.size := by
  rcases h.2 with ⟨h', _⟩ | ⟨g', cap, cur, h', h1, h2, _⟩
  ·injection h' with h' _ _; cases h'
  ·injection h' with h' _ _
   injection h' with h'
   injection h' with e1 e2 _
   subst e1
   exact ⟨e2, h1, (Array.getElem?_eq_some_iff.1 h2).1⟩
 refine ⟨g, rfl, h1, h2, fun k hk => ?_⟩
 have d : ∀ j (hj : j < 4) u, l[k].cells[j]? = some u -> w.cell? ⟨g, k * 4 + j, none⟩ = some u := fun j hj u hu => by
  have := hc (4 * k + j) u (by rw [flat_at4 l k j hk hj]; exact hu)
  rw [show 0 + (4 * k + j) = k * 4 + j by omega] at this
  exact this
 exact ⟨d 0 (by omega) _ rfl, d 1 (by omega) _ rfl⟩
theorem ent_at {B : Nat} {w : World} {v : Value} {l : List En} (h : OwnE B w v l) : ∃ a c, v = .slice a l.length c /\ (0 < l.length -> ∃ g, a = some ⟨g, 0, none⟩ /\ B <= g /\ g < w.heap.size /\ ∀ k (hk : k < l.length), w.cell? ⟨g, k * 5, none⟩ = some (.int .i64 l[k].sq) /\ w.cell? ⟨g, k * 5 + 1, none⟩ = some (.int .i64 l[k].it.sh) /\ w.cell? ⟨g, k * 5 + 2, none⟩ = some (.int .i64 l[k].it.nu)) := by
 obtain ⟨a, c, rfl, hx⟩ := Lies.of_own h
 refine ⟨a, c, rfl, fun h0 => ?_⟩
 obtain ⟨g, off, rfl, hc⟩ := hx h0
 obtain ⟨rfl, h1, h2⟩ : off = 0 /\ B <= g /\ g < w.heap.size := by
  rcases h.2 with ⟨h', _⟩ | ⟨g', cap, cur, h', h1, h2, _⟩
  ·injection h' with h' _ _; cases h'
  ·injection h' with h' _ _
   injection h' with h'
   injection h' with e1 e2 _
   subst e1
   exact ⟨e2, h1, (Array.getElem?_eq_some_iff.1 h2).1⟩
 refine ⟨g, rfl, h1, h2, fun k hk => ?_⟩
 have d : ∀ j (hj : j < 5) u, l[k].cells[j]? = some u -> w.cell? ⟨g, k * 5 + j, none⟩ = some u := fun j hj u hu => by
  have := hc (5 * k + j) u (by rw [flat_at5 l k j hk hj]; exact hu)
  rw [show 0 + (5 * k + j) = k * 5 + j by omega] at this
  exact this
 exact ⟨d 0 (by omega) _ rfl, d 1 (by omega) _ rfl, d 2 (by omega) _ rfl⟩
structure OF (w0 ws wt wr : World) (v : Value) (l : List Dd) : Prop where
 ow : OwnD w0.heap.size wr v l
 nb : ∀ j, v.ownBlock = some j -> j < ws.heap.size ∨ wt.heap.size <= j
 on : Only wt wr (fun j => (w0.heap.size <= j /\ j < ws.heap.size) ∨ wt.heap.size <= j)
section
variable {w0 ws wt wr wq w' : World} {v v' : Value} {l l' : List Dd}
theorem OF.grown (h : OF w0 ws wt wr v l) (g : wr.grownBy wq none) : OF w0 ws wt wq v l :=
 ⟨(Only.grown g).own h.ow (by simp), h.nb, h.on.trans ((Only.grown g).mono (by simp))⟩
theorem OF.app (h : OF w0 ws wt wr v l) (o : OwnD w0.heap.size w' v' l') (g : wr.grownBy w' v.ownBlock) (hv : v'.ownBlock = v.ownBlock ∨ v'.ownBlock = some wr.heap.size) : OF w0 ws wt w' v' l' := by
 refine ⟨o, fun j hj => ?_, h.on.trans ((Only.grown g).mono (fun j _ hj => ?_))⟩
 ·rcases hv with e | e
  ·exact h.nb j (e ▸ hj)
  ·rw [hj] at e
   injection e with e
   exact .inr (by rw [e]; exact h.on.size)
 ·rcases h.nb j hj with e | e
  ·exact .inl (.inl ⟨(ownD_ge h.ow j hj).1, e⟩)
  ·exact .inl (.inr e)
theorem OF.start (h : OwnD w0.heap.size ws v l) (g : ws.grownBy wt none) : OF w0 ws wt wt v l :=
 ⟨(Only.grown g).own h (by simp), fun j hj => .inl (ownD_ge h j hj).2, Only.refl _ _⟩
end
theorem places_any (bk bp : Nat) (vk : Value) (D : Nat -> Prop) (kp : Kp) (p : Pr) (w : World) (h : KX w bk bp vk D kp p) (gd : PGd p) (h0 : p.upE 0 = 0) (h1 : p.upE 1 = 0) (hl : ∀ i, (p.world i).length <= 1000 /\ (p.outbox i).length <= 1000) :
  Calls Tryz.prog 26 #[.pointer (some ⟨bk, 0, none⟩)] w fun e w' => ∃ v, e = .returned (.tuple #[v, .bool true]) /\ OwnD w.heap.size w' v (p.there 0 ++ p.there 1) /\ w.grownBy w' none := by
 have H := Hid.mk' h
 have c0 := h.at_.c 0 _ rfl
 have hlt := h.at_.lt
 have C0 := Hid.mk' fun W (g : w.grownBy W none) => marks_px (h.grown g).pw 0
 have C1 := Hid.mk' fun W (g : w.grownBy W none) => marks_px (h.grown g).pw 1
 have CW0 := Hid.mk' fun W (g : w.grownBy W none) => world_px (h.grown g).pw gd 0
 have CO0 := Hid.mk' fun W (g : w.grownBy W none) => outbox_px (h.grown g).pw gd 0
 have CW1 := Hid.mk' fun W (g : w.grownBy W none) => world_px (h.grown g).pw gd 1
 have CO1 := Hid.mk' fun W (g : w.grownBy W none) => outbox_px (h.grown g).pw gd 1
 rw [h0] at C0 CW0 CO0
 rw [h1] at C1 CW1 CO1
 unfold mkV at C0 C1
 have l0 := hl 0
 have l1 := hl 1
 unfold Pr.there
 rw [show (1 : Int) - 0 = 1 from rfl, show (1 : Int) - 1 = 0 from rfl]
 generalize p.marks 0 = a at C0 ⊢
 generalize p.marks 1 = b at C1 ⊢
 generalize p.world 0 = X0 at CW0 l0 ⊢
 generalize p.outbox 0 = Y0 at CO0 l0 ⊢
 generalize p.world 1 = X1 at CW1 l1 ⊢
 generalize p.outbox 1 = Y1 at CO1 l1 ⊢
 have G0 := Hid.mk' (World.grownBy_alloc w (.cells #[.int .i64 0, .int .i64 0, .int .i64 0, .int .i64 0, .int .i64 0, .int .i64 0, .int .i64 0, .int .i64 0, .int .i64 0, .int .i64 0] 45) none)
 have A0 := Hid.mk' (At.new w [.int .i64 0, .int .i64 0, .int .i64 0, .int .i64 0, .int .i64 0, .int .i64 0, .int .i64 0, .int .i64 0, .int .i64 0, .int .i64 0] 45)
 clear h h0 h1 gd hl
 go_enter Tryz.func26, Tryz.ntmps26
 go_wp2_with fail
 refine wp_loop_rounds 3 ?_
 rw [rounds_succ]
 go_wp2_with fail
 refine Calls.mono (C0.out _ G0.out) ?_
 rintro e w1 ⟨rfl, g1⟩
 have Gw1 := Hid.mk' (G0.out.trans g1)
 have Aw1 : Hid (At w1 w.heap.size [.int .i64 0, .int .i64 0, .int .i64 0, .int .i64 0, .int .i64 0, .int .i64 0, .int .i64 0, .int .i64 0, .int .i64 0, .int .i64 0]) := Hid.mk' (A0.out.grown g1)
 clear g1
 have n0 := Aw1.out.c 0 _ rfl
 have n1 := Aw1.out.c 1 _ rfl
 have n2 := Aw1.out.c 2 _ rfl
 have n3 := Aw1.out.c 3 _ rfl
 have n4 := Aw1.out.c 4 _ rfl
 have nf := Aw1.out.f
 have nlt := Aw1.out.lt
 have nne : ¬ w.heap.size = w1.heap.size := by omega
 have nne' : ¬ w1.heap.size = w.heap.size := by omega
 have P : Hid (At ((((((w1.setCell ⟨w.heap.size, 0, none⟩ (.int .i64 a.g)).setCell ⟨w.heap.size, 1, none⟩ (.int .i64 a.m)).setCell ⟨w.heap.size, 2, none⟩ (.int .i64 a.s)).setCell ⟨w.heap.size, 3, none⟩ (.int .i64 a.a)).setCell ⟨w.heap.size, 4, none⟩ (.int .i64 a.n)).alloc (.cells #[.int .i64 a.g, .int .i64 a.m, .int .i64 a.s, .int .i64 a.a, .int .i64 a.n] 44)) w.heap.size [.int .i64 a.g, .int .i64 a.m, .int .i64 a.s, .int .i64 a.a, .int .i64 a.n, .int .i64 0, .int .i64 0, .int .i64 0, .int .i64 0, .int .i64 0] /\ w.grownBy ((((((w1.setCell ⟨w.heap.size, 0, none⟩ (.int .i64 a.g)).setCell ⟨w.heap.size, 1, none⟩ (.int .i64 a.m)).setCell ⟨w.heap.size, 2, none⟩ (.int .i64 a.s)).setCell ⟨w.heap.size, 3, none⟩ (.int .i64 a.a)).setCell ⟨w.heap.size, 4, none⟩ (.int .i64 a.n)).alloc (.cells #[.int .i64 a.g, .int .i64 a.m, .int .i64 a.s, .int .i64 a.a, .int .i64 a.n] 44)) none) := by
  have o1 : Only w w1 (fun j => w.heap.size <= j) := (Only.grown Gw1.out).mono (by simp)
  have o2 : Only w1 (((((w1.setCell ⟨w.heap.size, 0, none⟩ (.int .i64 a.g)).setCell ⟨w.heap.size, 1, none⟩ (.int .i64 a.m)).setCell ⟨w.heap.size, 2, none⟩ (.int .i64 a.s)).setCell ⟨w.heap.size, 3, none⟩ (.int .i64 a.a)).setCell ⟨w.heap.size, 4, none⟩ (.int .i64 a.n)) (fun j => j = w.heap.size) := Only.set5 w1 w.heap.size 0 (.int .i64 a.g) (.int .i64 a.m) (.int .i64 a.s) (.int .i64 a.a) (.int .i64 a.n)
  have o3 := (o1.trans (o2.mono (fun j _ e => .inl (by omega)))).trans ((Only.grown (World.grownBy_alloc (((((w1.setCell ⟨w.heap.size, 0, none⟩ (.int .i64 a.g)).setCell ⟨w.heap.size, 1, none⟩ (.int .i64 a.m)).setCell ⟨w.heap.size, 2, none⟩ (.int .i64 a.s)).setCell ⟨w.heap.size, 3, none⟩ (.int .i64 a.a)).setCell ⟨w.heap.size, 4, none⟩ (.int .i64 a.n)) (.cells #[.int .i64 a.g, .int .i64 a.m, .int .i64 a.s, .int .i64 a.a, .int .i64 a.n] 44) none)).mono (by simp))
  exact Hid.mk' ⟨((((((Aw1.out.put 0 (.int .i64 a.g) (by simp)).put 1 (.int .i64 a.m) (by simp)).put 2 (.int .i64 a.s) (by simp)).put 3 (.int .i64 a.a) (by simp)).put 4 (.int .i64 a.n) (by simp)).alloc (.cells #[.int .i64 a.g, .int .i64 a.m, .int .i64 a.s, .int .i64 a.a, .int .i64 a.n] 44)), o3.fresh (fun k hk e => by omega)⟩
 go_wp2_with fail
 generalize ((((((w1.setCell ⟨w.heap.size, 0, none⟩ (.int .i64 a.g)).setCell ⟨w.heap.size, 1, none⟩ (.int .i64 a.m)).setCell ⟨w.heap.size, 2, none⟩ (.int .i64 a.s)).setCell ⟨w.heap.size, 3, none⟩ (.int .i64 a.a)).setCell ⟨w.heap.size, 4, none⟩ (.int .i64 a.n)).alloc (.cells #[.int .i64 a.g, .int .i64 a.m, .int .i64 a.s, .int .i64 a.a, .int .i64 a.n] 44)) = w2 at P ⊢
 have A2 := Hid.mk' P.out.1
 have G2 := Hid.mk' P.out.2
 clear n0 n1 n2 n3 n4 nf nlt nne nne' P
 have cw2 := (H.out.at_.grown G2.out).c 0 _ rfl
 rw [rounds_succ]
 go_wp2_with fail
 refine Calls.mono (C1.out _ G2.out) ?_
 rintro e w3 ⟨rfl, g1⟩
 have Gw3 := Hid.mk' (G2.out.trans g1)
 have Aw3 : Hid (At w3 w.heap.size [.int .i64 a.g, .int .i64 a.m, .int .i64 a.s, .int .i64 a.a, .int .i64 a.n, .int .i64 0, .int .i64 0, .int .i64 0, .int .i64 0, .int .i64 0]) := Hid.mk' (A2.out.grown g1)
 clear g1
 have n0 := Aw3.out.c 5 _ rfl
 have n1 := Aw3.out.c 6 _ rfl
 have n2 := Aw3.out.c 7 _ rfl
 have n3 := Aw3.out.c 8 _ rfl
 have n4 := Aw3.out.c 9 _ rfl
 have nf := Aw3.out.f
 have nlt := Aw3.out.lt
 have nne : ¬ w.heap.size = w3.heap.size := by omega
 have nne' : ¬ w3.heap.size = w.heap.size := by omega
 have P : Hid (At ((((((w3.setCell ⟨w.heap.size, 5, none⟩ (.int .i64 b.g)).setCell ⟨w.heap.size, 6, none⟩ (.int .i64 b.m)).setCell ⟨w.heap.size, 7, none⟩ (.int .i64 b.s)).setCell ⟨w.heap.size, 8, none⟩ (.int .i64 b.a)).setCell ⟨w.heap.size, 9, none⟩ (.int .i64 b.n)).alloc (.cells #[.int .i64 b.g, .int .i64 b.m, .int .i64 b.s, .int .i64 b.a, .int .i64 b.n] 44)) w.heap.size [.int .i64 a.g, .int .i64 a.m, .int .i64 a.s, .int .i64 a.a, .int .i64 a.n, .int .i64 b.g, .int .i64 b.m, .int .i64 b.s, .int .i64 b.a, .int .i64 b.n] /\ w.grownBy ((((((w3.setCell ⟨w.heap.size, 5, none⟩ (.int .i64 b.g)).setCell ⟨w.heap.size, 6, none⟩ (.int .i64 b.m)).setCell ⟨w.heap.size, 7, none⟩ (.int .i64 b.s)).setCell ⟨w.heap.size, 8, none⟩ (.int .i64 b.a)).setCell ⟨w.heap.size, 9, none⟩ (.int .i64 b.n)).alloc (.cells #[.int .i64 b.g, .int .i64 b.m, .int .i64 b.s, .int .i64 b.a, .int .i64 b.n] 44)) none) := by
  have o1 : Only w w3 (fun j => w.heap.size <= j) := (Only.grown Gw3.out).mono (by simp)
  have o2 : Only w3 (((((w3.setCell ⟨w.heap.size, 5, none⟩ (.int .i64 b.g)).setCell ⟨w.heap.size, 6, none⟩ (.int .i64 b.m)).setCell ⟨w.heap.size, 7, none⟩ (.int .i64 b.s)).setCell ⟨w.heap.size, 8, none⟩ (.int .i64 b.a)).setCell ⟨w.heap.size, 9, none⟩ (.int .i64 b.n)) (fun j => j = w.heap.size) := Only.set5 w3 w.heap.size 5 (.int .i64 b.g) (.int .i64 b.m) (.int .i64 b.s) (.int .i64 b.a) (.int .i64 b.n)
  have o3 := (o1.trans (o2.mono (fun j _ e => .inl (by omega)))).trans ((Only.grown (World.grownBy_alloc (((((w3.setCell ⟨w.heap.size, 5, none⟩ (.int .i64 b.g)).setCell ⟨w.heap.size, 6, none⟩ (.int .i64 b.m)).setCell ⟨w.heap.size, 7, none⟩ (.int .i64 b.s)).setCell ⟨w.heap.size, 8, none⟩ (.int .i64 b.a)).setCell ⟨w.heap.size, 9, none⟩ (.int .i64 b.n)) (.cells #[.int .i64 b.g, .int .i64 b.m, .int .i64 b.s, .int .i64 b.a, .int .i64 b.n] 44) none)).mono (by simp))
  exact Hid.mk' ⟨((((((Aw3.out.put 5 (.int .i64 b.g) (by simp)).put 6 (.int .i64 b.m) (by simp)).put 7 (.int .i64 b.s) (by simp)).put 8 (.int .i64 b.a) (by simp)).put 9 (.int .i64 b.n) (by simp)).alloc (.cells #[.int .i64 b.g, .int .i64 b.m, .int .i64 b.s, .int .i64 b.a, .int .i64 b.n] 44)), o3.fresh (fun k hk e => by omega)⟩
 go_wp2_with fail
 generalize ((((((w3.setCell ⟨w.heap.size, 5, none⟩ (.int .i64 b.g)).setCell ⟨w.heap.size, 6, none⟩ (.int .i64 b.m)).setCell ⟨w.heap.size, 7, none⟩ (.int .i64 b.s)).setCell ⟨w.heap.size, 8, none⟩ (.int .i64 b.a)).setCell ⟨w.heap.size, 9, none⟩ (.int .i64 b.n)).alloc (.cells #[.int .i64 b.g, .int .i64 b.m, .int .i64 b.s, .int .i64 b.a, .int .i64 b.n] 44)) = w4 at P ⊢
 have A4 := Hid.mk' P.out.1
 have G4 := Hid.mk' P.out.2
 clear n0 n1 n2 n3 n4 nf nlt nne nne' P
 have cw4 := (H.out.at_.grown G4.out).c 0 _ rfl
 rw [rounds_succ]
 go_wp2_with fail
 refine wp_loop_rounds 3 ?_
 rw [rounds_succ]
 go_wp2_with fail
 obtain ⟨nX0, hX0⟩ : ∃ n, X0.length = n := ⟨_, rfl⟩
 obtain ⟨nY0, hY0⟩ : ∃ n, Y0.length = n := ⟨_, rfl⟩
 rw [hX0, hY0] at l0
 have HX0 := Hid.mk' hX0
 have HY0 := Hid.mk' hY0
 clear hX0 hY0
 obtain ⟨nX1, hX1⟩ : ∃ n, X1.length = n := ⟨_, rfl⟩
 obtain ⟨nY1, hY1⟩ : ∃ n, Y1.length = n := ⟨_, rfl⟩
 rw [hX1, hY1] at l1
 have HX1 := Hid.mk' hX1
 have HY1 := Hid.mk' hY1
 clear hX1 hY1
 have ON0 : Hid (OwnD w4.heap.size w4 (.slice none 0 0) []) := Hid.mk' (OwnD.nil _ _)
 have AS0 := A4
 have HZ0 : Hid (w.heap.size < w4.heap.size /\ w4.heap.size <= w4.heap.size) := Hid.mk' ⟨A4.out.lt, Nat.le_refl _⟩
 have HA0 : Hid (([] : List Dd).length <= 10000 /\ X0.length <= 1000 /\ Y0.length <= 1000) := Hid.mk' (by have := HX0.out; have := HY0.out; simp only [List.length_nil]; omega)
 refine Calls.mono (CW0.out _ G4.out) ?_
 rintro e wa0 ⟨va0, rfl, oa0, _, ga0⟩
 obtain ⟨aa0, ca0, hva0, hxa0⟩ := itm_at oa0
 rw [HX0.out] at hva0
 subst hva0
 have XI0 := Hid.mk' hxa0
 have GA0 := Hid.mk' ga0
 have cA0 := (H.out.at_.grown (G4.out.trans ga0)).c 0 _ rfl
 clear oa0 hxa0 ga0
 go_wp2_with fail
 refine Calls.mono (CO0.out _ (G4.out.trans GA0.out)) ?_
 rintro e wb0 ⟨vb0, rfl, ob0, _, gb0⟩
 obtain ⟨ab0, cb0, hvb0, hxb0⟩ := ent_at ob0
 rw [HY0.out] at hvb0
 subst hvb0
 have YI0 := Hid.mk' hxb0
 have GB0 := Hid.mk' gb0
 have ZZ0 : Hid (w4.heap.size <= wa0.heap.size /\ wa0.heap.size <= wb0.heap.size) := Hid.mk' ⟨GA0.out.size, gb0.size⟩
 have OS0 : Hid (OF w4 w4 wb0 wb0 (.slice none 0 0) ([] : List Dd)) := Hid.mk' (OF.start ON0.out (GA0.out.trans gb0))
 clear ob0 hxb0 gb0 cA0
 go_wp2_with fail
 go_loopw [4, 14] (fun u f wr => ∃ k : Nat, k <= nX0 /\ f = .int .i64 k /\ OF w4 w4 wb0 wr u (([] : List Dd) ++ (X0.take k).map It.dd)) (fun _ f _ => nX0 - (intOf f).toNat)
 case atStart => exact ⟨0, by omega, rfl, by simpa using OS0.out⟩
 case round =>
  clear OS0
  obtain ⟨k, hk, rfl, of⟩ := hrel
  have OW := Hid.mk' of
  clear of
  by_cases hlt : k < nX0
  ·have hkl : k < X0.length := by rw [HX0.out]; exact hlt
   obtain ⟨g, rfl, hg1, hg2, hc⟩ := XI0.out (by omega)
   have i0 := OW.out.on.cell (GB0.out.cell (hc k hkl).1 (by simp)) (by have := ZZ0.out; show ¬ ((w4.heap.size <= g /\ g < w4.heap.size) ∨ wb0.heap.size <= g); omega)
   have i1 := OW.out.on.cell (GB0.out.cell (hc k hkl).2 (by simp)) (by have := ZZ0.out; show ¬ ((w4.heap.size <= g /\ g < w4.heap.size) ∨ wb0.heap.size <= g); omega)
   have ln : Hid ((([] : List Dd) ++ (X0.take k).map It.dd).length + 1 <= 3000000) := Hid.mk' (by have := HA0.out; simp only [List.length_append, List.length_map, List.length_take]; omega)
   have hB : Hid (w4.heap.size <= wr.heap.size) := Hid.mk' (by have := OW.out.on.size; have := ZZ0.out; have := HZ0.out; omega)
   obtain ⟨x, hx⟩ : ∃ x, X0[k] = x := ⟨_, rfl⟩
   rw [hx] at i0 i1
   have tk : Hid (X0.take (k + 1) = X0.take k ++ [x]) := Hid.mk' (by rw [List.take_succ_eq_append_getElem hkl, hx])
   have y0 : (0 : Int) <= (k : Int) := by omega
   have y1 : (k : Int) < (nX0 : Int) := by omega
   clear hc hx
   obtain ⟨ac, hac⟩ : ∃ ac, ([] : List Dd) ++ (X0.take k).map It.dd = ac := ⟨_, rfl⟩
   rw [hac] at OW ln
   have HAC := Hid.mk' hac
   clear hac
   go_wp2_with (at_builtin; refine wp_appD rfl _ _ rfl w4.heap.size u4 ac rfl (World.ownsRow.alloc OW.out.ow _) ⟨wr.heap.size, 0, none⟩ x.dd rfl (cells_new wr x.dd.cells _ _ rfl) ln.out (by have := hB.out; simp; omega) ?c4)
   case c4 =>
    intro v' w' o' g' h'
    have ON := Hid.mk' ((OW.out.grown (World.grownBy_alloc wr _ none)).app o' g' (by simpa using h'))
    clear o' g' h'
    go_wp2
    refine ⟨⟨k + 1, by omega, by go_num, ?_⟩, by simp [intOf]; omega⟩
    rw [tk.out, List.map_append, <- List.append_assoc, HAC.out]
    exact ON.out
  ·obtain rfl : k = nX0 := by omega
   have y1 : ¬ (k : Int) < (k : Int) := by omega
   have OT0 : Hid (OF w4 w4 wb0 wr u4 (([] : List Dd) ++ X0.map It.dd)) := Hid.mk' (by have := OW.out; rwa [List.take_of_length_le (by rw [HX0.out]; omega)] at this)
   clear OW
   go_wp2_with fail
   go_loopw [4, 15] (fun u f wr => ∃ q : Nat, q <= nY0 /\ f = .int .i64 q /\ OF w4 w4 wb0 wr u ((([] : List Dd) ++ X0.map It.dd) ++ ((Y0.take q).filter (fun e => decide (b.n < e.sq))).map (fun e => e.it.dd))) (fun _ f _ => nY0 - (intOf f).toNat)
   case atStart => exact ⟨0, by omega, rfl, by simpa using OT0.out⟩
   case round =>
    clear OT0
    obtain ⟨q, hq, rfl, of⟩ := hrel
    have OW := Hid.mk' of
    clear of
    by_cases hlt : q < nY0
    ·have hql : q < Y0.length := by rw [HY0.out]; exact hlt
     obtain ⟨g, rfl, hg1, hg2, hc⟩ := YI0.out (by omega)
     have i0 := OW.out.on.cell (hc q hql).1 (by have := ZZ0.out; show ¬ ((w4.heap.size <= g /\ g < w4.heap.size) ∨ wb0.heap.size <= g); omega)
     have i1 := OW.out.on.cell (hc q hql).2.1 (by have := ZZ0.out; show ¬ ((w4.heap.size <= g /\ g < w4.heap.size) ∨ wb0.heap.size <= g); omega)
     have i2 := OW.out.on.cell (hc q hql).2.2 (by have := ZZ0.out; show ¬ ((w4.heap.size <= g /\ g < w4.heap.size) ∨ wb0.heap.size <= g); omega)
     have iN := OW.out.on.cell ((GA0.out.trans GB0.out).cell (AS0.out.c 9 _ rfl) (by simp)) (by have := ZZ0.out; have := HZ0.out; show ¬ ((w4.heap.size <= w.heap.size /\ w.heap.size < w4.heap.size) ∨ wb0.heap.size <= w.heap.size); omega)
     obtain ⟨x, hx⟩ : ∃ x, Y0[q] = x := ⟨_, rfl⟩
     rw [hx] at i0 i1 i2
     have tk : Hid (Y0.take (q + 1) = Y0.take q ++ [x]) := Hid.mk' (by rw [List.take_succ_eq_append_getElem hql, hx])
     have y0 : (0 : Int) <= (q : Int) := by omega
     have y1 : (q : Int) < (nY0 : Int) := by omega
     clear hc hx
     by_cases sn : b.n < x.sq
     ·have sd : decide (b.n < x.sq) = true := decide_eq_true sn
      have ln : Hid (((([] : List Dd) ++ X0.map It.dd) ++ ((Y0.take q).filter (fun e => decide (b.n < e.sq))).map (fun e => e.it.dd)).length + 1 <= 3000000) := Hid.mk' (by have := HA0.out; have := List.length_filter_le (fun e => decide (b.n < e.sq)) (Y0.take q); simp only [List.length_append, List.length_map, List.length_take] at *; omega)
      have hB : Hid (w4.heap.size <= wr.heap.size) := Hid.mk' (by have := OW.out.on.size; have := ZZ0.out; have := HZ0.out; omega)
      obtain ⟨ac, hac⟩ : ∃ ac, (([] : List Dd) ++ X0.map It.dd) ++ ((Y0.take q).filter (fun e => decide (b.n < e.sq))).map (fun e => e.it.dd) = ac := ⟨_, rfl⟩
      rw [hac] at OW ln
      have HAC := Hid.mk' hac
      clear hac
      go_wp2_with fail
      go_quiet (fail)
      have OX : Hid (OF w4 w4 wb0 (wr.drewN nq) u4 ac) := Hid.mk' (OW.out.grown (grownBy_drewN (grownBy_refl _ _) nq))
      have ZD : Hid (w4.heap.size <= (wr.drewN nq).heap.size) := Hid.mk' hB.out
      go_wp2_with (at_builtin; refine wp_appD rfl _ _ rfl w4.heap.size u4 ac rfl (World.ownsRow.alloc OX.out.ow _) ⟨wr.heap.size, 0, none⟩ x.it.dd rfl (cells_new (wr.drewN nq) x.it.dd.cells _ _ rfl) ln.out (by have := ZD.out; simp at *; omega) ?c4)
      case c4 =>
       intro v' w' o' g' h'
       have ON := Hid.mk' ((OX.out.grown (World.grownBy_alloc _ _ none)).app o' g' (by simpa using h'))
       clear o' g' h'
       go_wp2
       refine ⟨⟨q + 1, by omega, by go_num, ?_⟩, by simp [intOf]; omega⟩
       rw [tk.out, List.filter_append, List.filter_cons_of_pos (by simpa using sn), List.filter_nil, List.map_append, <- List.append_assoc, HAC.out]
       exact ON.out
     ·have sd : decide (b.n < x.sq) = false := decide_eq_false sn
      go_wp2_with fail
      go_quiet (fail)
      go_wp2
      refine ⟨⟨q + 1, by omega, by go_num, ?_⟩, by simp [intOf]; omega⟩
      rw [tk.out, List.filter_append, List.filter_cons_of_neg (by simpa using sn), List.filter_nil, List.append_nil]
      exact OW.out.grown (grownBy_drewN (grownBy_refl _ _) nq)
    ·obtain rfl : q = nY0 := by omega
     have y1 : ¬ (q : Int) < (q : Int) := by omega
     have OV0 : Hid (OF w4 w4 wb0 wr u4 ((([] : List Dd) ++ X0.map It.dd) ++ (Y0.filter (fun e => decide (b.n < e.sq))).map (fun e => e.it.dd))) := Hid.mk' (by have := OW.out; rwa [List.take_of_length_le (by rw [HY0.out]; omega)] at this)
     clear OW
     obtain ⟨ws1, rfl⟩ : ∃ W, W = wr := ⟨_, rfl⟩
     obtain ⟨uu1, rfl⟩ : ∃ U, U = u4 := ⟨_, rfl⟩
     have GS1 : Hid (w.grownBy ws1 none) := Hid.mk' ((((Only.grown ((G4.out.trans GA0.out).trans GB0.out)).mono (A' := fun j => w.heap.size <= j) (by simp)).trans (OV0.out.on.mono (fun j _ e => by have := HZ0.out; have := ZZ0.out; omega))).fresh (fun k hk e => by omega))
     have AS1 : Hid (At ws1 w.heap.size [.int .i64 a.g, .int .i64 a.m, .int .i64 a.s, .int .i64 a.a, .int .i64 a.n, .int .i64 b.g, .int .i64 b.m, .int .i64 b.s, .int .i64 b.a, .int .i64 b.n]) := Hid.mk' ((AS0.out.grown (GA0.out.trans GB0.out)).only OV0.out.on (by have := HZ0.out; have := ZZ0.out; omega))
     have HZ1 : Hid (w.heap.size < w4.heap.size /\ w4.heap.size <= ws1.heap.size) := Hid.mk' (by have := OV0.out.on.size; have := HZ0.out; have := ZZ0.out; omega)
     have c1 := (H.out.at_.grown GS1.out).c 0 _ rfl
     have ON1 := Hid.mk' OV0.out.ow
     obtain ⟨AC, hAC⟩ : ∃ AC, ((([] : List Dd) ++ X0.map It.dd) ++ (Y0.filter (fun e => decide (b.n < e.sq))).map (fun e => e.it.dd)) = AC := ⟨_, rfl⟩
     rw [hAC] at ON1
     have HAC := Hid.mk' hAC
     have HA1 : Hid (AC.length <= 10000 /\ X1.length <= 1000 /\ Y1.length <= 1000) := Hid.mk' (by rw [<- hAC]; have := HX1.out; have := HY1.out; have := HA0.out; have := List.length_filter_le (fun e => decide (b.n < e.sq)) Y0; simp only [List.length_append, List.length_map, List.length_nil] at *; omega)
     clear hAC OV0 CW0 CO0 C0 C1 XI0 YI0
     go_wp2_with fail
     rw [rounds_succ]
     go_wp2_with fail
     refine Calls.mono (CW1.out _ GS1.out) ?_
     rintro e wa1 ⟨va1, rfl, oa1, _, ga1⟩
     obtain ⟨aa1, ca1, hva1, hxa1⟩ := itm_at oa1
     rw [HX1.out] at hva1
     subst hva1
     have XI1 := Hid.mk' hxa1
     have GA1 := Hid.mk' ga1
     have cA1 := (H.out.at_.grown (GS1.out.trans ga1)).c 0 _ rfl
     clear oa1 hxa1 ga1
     go_wp2_with fail
     refine Calls.mono (CO1.out _ (GS1.out.trans GA1.out)) ?_
     rintro e wb1 ⟨vb1, rfl, ob1, _, gb1⟩
     obtain ⟨ab1, cb1, hvb1, hxb1⟩ := ent_at ob1
     rw [HY1.out] at hvb1
     subst hvb1
     have YI1 := Hid.mk' hxb1
     have GB1 := Hid.mk' gb1
     have ZZ1 : Hid (ws1.heap.size <= wa1.heap.size /\ wa1.heap.size <= wb1.heap.size) := Hid.mk' ⟨GA1.out.size, gb1.size⟩
     have OS1 : Hid (OF w4 ws1 wb1 wb1 uu1 AC) := Hid.mk' (OF.start ON1.out (GA1.out.trans gb1))
     clear ob1 hxb1 gb1 cA1
     go_wp2_with fail
     go_loopw [4, 14] (fun u f wr => ∃ k : Nat, k <= nX1 /\ f = .int .i64 k /\ OF w4 ws1 wb1 wr u (AC ++ (X1.take k).map It.dd)) (fun _ f _ => nX1 - (intOf f).toNat)
     case atStart => exact ⟨0, by omega, rfl, by simpa using OS1.out⟩
     case round =>
      clear OS1
      obtain ⟨k, hk, rfl, of⟩ := hrel
      have OW := Hid.mk' of
      clear of
      by_cases hlt : k < nX1
      ·have hkl : k < X1.length := by rw [HX1.out]; exact hlt
       obtain ⟨g, rfl, hg1, hg2, hc⟩ := XI1.out (by omega)
       have i0 := OW.out.on.cell (GB1.out.cell (hc k hkl).1 (by simp)) (by have := ZZ1.out; show ¬ ((w4.heap.size <= g /\ g < ws1.heap.size) ∨ wb1.heap.size <= g); omega)
       have i1 := OW.out.on.cell (GB1.out.cell (hc k hkl).2 (by simp)) (by have := ZZ1.out; show ¬ ((w4.heap.size <= g /\ g < ws1.heap.size) ∨ wb1.heap.size <= g); omega)
       have ln : Hid ((AC ++ (X1.take k).map It.dd).length + 1 <= 3000000) := Hid.mk' (by have := HA1.out; simp only [List.length_append, List.length_map, List.length_take]; omega)
       have hB : Hid (w4.heap.size <= wr.heap.size) := Hid.mk' (by have := OW.out.on.size; have := ZZ1.out; have := HZ1.out; omega)
       obtain ⟨x, hx⟩ : ∃ x, X1[k] = x := ⟨_, rfl⟩
       rw [hx] at i0 i1
       have tk : Hid (X1.take (k + 1) = X1.take k ++ [x]) := Hid.mk' (by rw [List.take_succ_eq_append_getElem hkl, hx])
       have y0 : (0 : Int) <= (k : Int) := by omega
       have y1 : (k : Int) < (nX1 : Int) := by omega
       clear hc hx
       obtain ⟨ac, hac⟩ : ∃ ac, AC ++ (X1.take k).map It.dd = ac := ⟨_, rfl⟩
       rw [hac] at OW ln
       have HAC := Hid.mk' hac
       clear hac
       go_wp2_with (at_builtin; refine wp_appD rfl _ _ rfl w4.heap.size u4 ac rfl (World.ownsRow.alloc OW.out.ow _) ⟨wr.heap.size, 0, none⟩ x.dd rfl (cells_new wr x.dd.cells _ _ rfl) ln.out (by have := hB.out; simp; omega) ?c4)
       case c4 =>
        intro v' w' o' g' h'
        have ON := Hid.mk' ((OW.out.grown (World.grownBy_alloc wr _ none)).app o' g' (by simpa using h'))
        clear o' g' h'
        go_wp2
        refine ⟨⟨k + 1, by omega, by go_num, ?_⟩, by simp [intOf]; omega⟩
        rw [tk.out, List.map_append, <- List.append_assoc, HAC.out]
        exact ON.out
      ·obtain rfl : k = nX1 := by omega
       have y1 : ¬ (k : Int) < (k : Int) := by omega
       have OT1 : Hid (OF w4 ws1 wb1 wr u4 (AC ++ X1.map It.dd)) := Hid.mk' (by have := OW.out; rwa [List.take_of_length_le (by rw [HX1.out]; omega)] at this)
       clear OW
       go_wp2_with fail
       go_loopw [4, 15] (fun u f wr => ∃ q : Nat, q <= nY1 /\ f = .int .i64 q /\ OF w4 ws1 wb1 wr u ((AC ++ X1.map It.dd) ++ ((Y1.take q).filter (fun e => decide (a.n < e.sq))).map (fun e => e.it.dd))) (fun _ f _ => nY1 - (intOf f).toNat)
       case atStart => exact ⟨0, by omega, rfl, by simpa using OT1.out⟩
       case round =>
        clear OT1
        obtain ⟨q, hq, rfl, of⟩ := hrel
        have OW := Hid.mk' of
        clear of
        by_cases hlt : q < nY1
        ·have hql : q < Y1.length := by rw [HY1.out]; exact hlt
         obtain ⟨g, rfl, hg1, hg2, hc⟩ := YI1.out (by omega)
         have i0 := OW.out.on.cell (hc q hql).1 (by have := ZZ1.out; show ¬ ((w4.heap.size <= g /\ g < ws1.heap.size) ∨ wb1.heap.size <= g); omega)
         have i1 := OW.out.on.cell (hc q hql).2.1 (by have := ZZ1.out; show ¬ ((w4.heap.size <= g /\ g < ws1.heap.size) ∨ wb1.heap.size <= g); omega)
         have i2 := OW.out.on.cell (hc q hql).2.2 (by have := ZZ1.out; show ¬ ((w4.heap.size <= g /\ g < ws1.heap.size) ∨ wb1.heap.size <= g); omega)
         have iN := OW.out.on.cell ((GA1.out.trans GB1.out).cell (AS1.out.c 4 _ rfl) (by simp)) (by have := ZZ1.out; have := HZ1.out; show ¬ ((w4.heap.size <= w.heap.size /\ w.heap.size < ws1.heap.size) ∨ wb1.heap.size <= w.heap.size); omega)
         obtain ⟨x, hx⟩ : ∃ x, Y1[q] = x := ⟨_, rfl⟩
         rw [hx] at i0 i1 i2
         have tk : Hid (Y1.take (q + 1) = Y1.take q ++ [x]) := Hid.mk' (by rw [List.take_succ_eq_append_getElem hql, hx])
         have y0 : (0 : Int) <= (q : Int) := by omega
         have y1 : (q : Int) < (nY1 : Int) := by omega
         clear hc hx
         by_cases sn : a.n < x.sq
         ·have sd : decide (a.n < x.sq) = true := decide_eq_true sn
          have ln : Hid (((AC ++ X1.map It.dd) ++ ((Y1.take q).filter (fun e => decide (a.n < e.sq))).map (fun e => e.it.dd)).length + 1 <= 3000000) := Hid.mk' (by have := HA1.out; have := List.length_filter_le (fun e => decide (a.n < e.sq)) (Y1.take q); simp only [List.length_append, List.length_map, List.length_take] at *; omega)
          have hB : Hid (w4.heap.size <= wr.heap.size) := Hid.mk' (by have := OW.out.on.size; have := ZZ1.out; have := HZ1.out; omega)
          obtain ⟨ac, hac⟩ : ∃ ac, (AC ++ X1.map It.dd) ++ ((Y1.take q).filter (fun e => decide (a.n < e.sq))).map (fun e => e.it.dd) = ac := ⟨_, rfl⟩
          rw [hac] at OW ln
          have HAC := Hid.mk' hac
          clear hac
          go_wp2_with fail
          go_quiet (fail)
          have OX : Hid (OF w4 ws1 wb1 (wr.drewN nq) u4 ac) := Hid.mk' (OW.out.grown (grownBy_drewN (grownBy_refl _ _) nq))
          have ZD : Hid (w4.heap.size <= (wr.drewN nq).heap.size) := Hid.mk' hB.out
          go_wp2_with (at_builtin; refine wp_appD rfl _ _ rfl w4.heap.size u4 ac rfl (World.ownsRow.alloc OX.out.ow _) ⟨wr.heap.size, 0, none⟩ x.it.dd rfl (cells_new (wr.drewN nq) x.it.dd.cells _ _ rfl) ln.out (by have := ZD.out; simp at *; omega) ?c4)
          case c4 =>
           intro v' w' o' g' h'
           have ON := Hid.mk' ((OX.out.grown (World.grownBy_alloc _ _ none)).app o' g' (by simpa using h'))
           clear o' g' h'
           go_wp2
           refine ⟨⟨q + 1, by omega, by go_num, ?_⟩, by simp [intOf]; omega⟩
           rw [tk.out, List.filter_append, List.filter_cons_of_pos (by simpa using sn), List.filter_nil, List.map_append, <- List.append_assoc, HAC.out]
           exact ON.out
         ·have sd : decide (a.n < x.sq) = false := decide_eq_false sn
          go_wp2_with fail
          go_quiet (fail)
          go_wp2
          refine ⟨⟨q + 1, by omega, by go_num, ?_⟩, by simp [intOf]; omega⟩
          rw [tk.out, List.filter_append, List.filter_cons_of_neg (by simpa using sn), List.filter_nil, List.append_nil]
          exact OW.out.grown (grownBy_drewN (grownBy_refl _ _) nq)
        ·obtain rfl : q = nY1 := by omega
         have y1 : ¬ (q : Int) < (q : Int) := by omega
         have OV1 : Hid (OF w4 ws1 wb1 wr u4 ((AC ++ X1.map It.dd) ++ (Y1.filter (fun e => decide (a.n < e.sq))).map (fun e => e.it.dd))) := Hid.mk' (by have := OW.out; rwa [List.take_of_length_le (by rw [HY1.out]; omega)] at this)
         clear OW
         have GE : Hid (w.grownBy wr none) := Hid.mk' ((((Only.grown ((GS1.out.trans GA1.out).trans GB1.out)).mono (A' := fun j => w.heap.size <= j) (by simp)).trans (OV1.out.on.mono (fun j _ e => by have := HZ1.out; have := ZZ1.out; omega))).fresh (fun k hk e => by omega))
         have OE : Hid (OwnD w.heap.size wr u4 ((AC ++ X1.map It.dd) ++ (Y1.filter (fun e => decide (a.n < e.sq))).map (fun e => e.it.dd))) := Hid.mk' (ownD_low OV1.out.ow (by have := HZ1.out; omega))
         rw [<- HAC.out] at OE
         clear OV1
         go_wp2_with fail
         rw [rounds_succ]
         go_wp2
         refine bodyPost_ret (v := .tuple #[u4, .bool true]) (by simp [results, Tryz.results26, go_sem]) rfl ⟨_, rfl, ?_, GE.out⟩
         have := OE.out
         simpa [List.append_assoc] using this
def KQ (w : World) (bk bp : Nat) (wr : World) (k : Kp) (p : Pr) : Prop :=
 ∃ vk D, KX wr bk bp vk D k p /\ PGd p /\ (∀ j, kF bk vk D j -> w.heap.size <= j) /\ Only w wr (fun j => w.heap.size <= j)
section
variable {w wr w' : World} {bk bp : Nat} {k k' : Kp} {p q : Pr}
theorem KQ.gd (h : KQ w bk bp wr k p) : PGd p := by obtain ⟨_, _, _, h, _⟩ := h; exact h
theorem KQ.only (h : KQ w bk bp wr k p) : Only w wr (fun j => w.heap.size <= j) := by obtain ⟨_, _, _, _, _, h⟩ := h; exact h
theorem KQ.c0 (h : KQ w bk bp wr k p) : wr.cell? ⟨bk, 0, none⟩ = some (.pointer (some ⟨bp, 0, none⟩)) := by obtain ⟨_, _, h, _⟩ := h; exact h.at_.c 0 _ rfl
theorem KQ.lt (h : KQ w bk bp wr k p) : bk < wr.heap.size := by obtain ⟨_, _, h, _⟩ := h; exact h.at_.lt
theorem KQ.grown (h : KQ w bk bp wr k p) (g : wr.grownBy w' none) : KQ w bk bp w' k p := by
 obtain ⟨vk, D, hx, gd, hF, ho⟩ := h
 exact ⟨vk, D, hx.grown g, gd, hF, ho.trans ((Only.grown g).mono (by simp))⟩
theorem KQ.turn {vk : Value} {D : Nat -> Prop} (hx : KX wr bk bp vk D k p) (gd : PGd q) (hF : ∀ j, kF bk vk D j -> w.heap.size <= j) (ho : Only w wr (fun j => w.heap.size <= j)) (n : PN wr w' bp D q) : KQ w bk bp w' k q := by
 obtain ⟨x, s⟩ := hx.turnX n
 refine ⟨vk, _, x, gd, fun j hj => ?_, ho.trans (s.2.mono (fun j _ hj => .inl (hF j hj)))⟩
 rcases s.1 j hj with e | e
 ·exact hF j e
 ·exact Nat.le_trans ho.size e
theorem KQ.kn {vk : Value} {D : Nat -> Prop} (gd : PGd q) (hF : ∀ j, kF bk vk D j -> w.heap.size <= j) (ho : Only w wr (fun j => w.heap.size <= j)) (n : KN wr w' bk bp vk D k' q) : KQ w bk bp w' k' q := by
 obtain ⟨vk', D', x, s1, s2⟩ := n
 refine ⟨vk', D', x, gd, fun j hj => ?_, ho.trans (s2.mono (fun j _ hj => .inl (hF j hj)))⟩
 rcases s1 j hj with e | e
 ·exact hF j e
 ·exact Nat.le_trans ho.size e
theorem KQ.world (h : KQ w bk bp wr k p) (i : Int) : Calls Tryz.prog 14 #[.pointer (some ⟨bp, 0, none⟩), .int .i64 i] wr fun e w' => ∃ v, e = .returned (.tuple #[v, .int .i64 (p.upE i)]) /\ OwnI wr.heap.size w' v (p.world i) /\ wr.grownBy w' none := by
 obtain ⟨vk, D, hx, gd, _⟩ := h
 refine (world_px hx.pw gd i).mono ?_
 rintro e w' ⟨v, rfl, ho, _, g⟩
 exact ⟨v, rfl, ho, g⟩
theorem KQ.outbox (h : KQ w bk bp wr k p) (i : Int) : Calls Tryz.prog 15 #[.pointer (some ⟨bp, 0, none⟩), .int .i64 i] wr fun e w' => ∃ v, e = .returned (.tuple #[v, .int .i64 (p.upE i)]) /\ OwnE wr.heap.size w' v (p.outbox i) /\ wr.grownBy w' none := by
 obtain ⟨vk, D, hx, gd, _⟩ := h
 refine (outbox_px hx.pw gd i).mono ?_
 rintro e w' ⟨v, rfl, ho, _, g⟩
 exact ⟨v, rfl, ho, g⟩
theorem KQ.marks (h : KQ w bk bp wr k p) (i : Int) : Calls Tryz.prog 16 #[.pointer (some ⟨bp, 0, none⟩), .int .i64 i] wr fun e w' => e = .returned (.tuple #[mkV (p.marks i), .int .i64 (p.upE i)]) /\ wr.grownBy w' none := by
 obtain ⟨vk, D, hx, gd, _⟩ := h
 exact marks_px hx.pw i
theorem KQ.crash (h : KQ w bk bp wr k p) (i n : Int) : Calls Tryz.prog 18 #[.pointer (some ⟨bp, 0, none⟩), .int .i64 i, .int .i64 n] wr fun e w' => e = .returned (.int .i64 (p.crash i n).1) /\ KQ w bk bp w' k (p.crash i n).2 := by
 obtain ⟨vk, D, hx, gd, hF, ho⟩ := h
 refine (crash_px hx.pw i n).mono ?_
 rintro e w' ⟨rfl, pn⟩
 exact ⟨rfl, KQ.turn hx (crash_keep gd i n).gd hF ho pn⟩
theorem KQ.restart (h : KQ w bk bp wr k p) (i : Int) : Calls Tryz.prog 17 #[.pointer (some ⟨bp, 0, none⟩), .int .i64 i] wr fun e w' => e = .returned (.int .i64 (p.restart i).1) /\ KQ w bk bp w' k (p.restart i).2 := by
 obtain ⟨vk, D, hx, gd, hF, ho⟩ := h
 refine (restart_px hx.pw gd i).mono ?_
 rintro e w' ⟨rfl, pn⟩
 exact ⟨rfl, KQ.turn hx (restart_keep gd i).gd hF ho pn⟩
theorem KQ.tick (h : KQ w bk bp wr k p) (i : Int) : Calls Tryz.prog 33 #[.pointer (some ⟨bp, 0, none⟩), .int .i64 i] wr fun e w' => e = .returned (.int .i64 (p.tick i).1) /\ KQ w bk bp w' k (p.tick i).2 := by
 obtain ⟨vk, D, hx, gd, hF, ho⟩ := h
 refine (tick_px hx.pw gd i).mono ?_
 rintro e w' ⟨rfl, pn⟩
 exact ⟨rfl, KQ.turn hx (tick_keep gd i).gd hF ho pn⟩
theorem KQ.snap (h : KQ w bk bp wr k p) (i : Int) : Calls Tryz.prog 28 #[.pointer (some ⟨bp, 0, none⟩), .int .i64 i] wr fun e w' => e = .returned (.int .i64 (p.snap i).1) /\ KQ w bk bp w' k (p.snap i).2 := by
 obtain ⟨vk, D, hx, gd, hF, ho⟩ := h
 refine (snap_px hx.pw gd i).mono ?_
 rintro e w' ⟨rfl, pn⟩
 exact ⟨rfl, KQ.turn hx (snap_keep gd i).gd hF ho pn⟩
theorem KQ.send (h : KQ w bk bp wr k p) (i : Int) : Calls Tryz.prog 29 #[.pointer (some ⟨bp, 0, none⟩), .int .i64 i] wr fun e w' => e = .returned (.int .i64 (p.send i).1) /\ KQ w bk bp w' k (p.send i).2 := by
 obtain ⟨vk, D, hx, gd, hF, ho⟩ := h
 refine (send_px hx.pw gd i).mono ?_
 rintro e w' ⟨rfl, pn⟩
 exact ⟨rfl, KQ.turn hx (send_keep gd i).gd hF ho pn⟩
theorem KQ.deliver (h : KQ w bk bp wr k p) (i n : Int) : Calls Tryz.prog 30 #[.pointer (some ⟨bp, 0, none⟩), .int .i64 i, .int .i64 n] wr fun e w' => e = .returned (.int .i64 (p.deliver i n).1) /\ KQ w bk bp w' k (p.deliver i n).2 := by
 obtain ⟨vk, D, hx, gd, hF, ho⟩ := h
 refine (deliver_px hx.pw gd i n).mono ?_
 rintro e w' ⟨rfl, pn⟩
 exact ⟨rfl, KQ.turn hx (deliver_keep gd i n).gd hF ho pn⟩
theorem KQ.brk (h : KQ w bk bp wr k p) (i n m : Int) (hk : n <= 9223372036854775807) (hm : i64B m) : Calls Tryz.prog 27 #[.pointer (some ⟨bp, 0, none⟩), .int .i64 i, .int .i64 n, .int .i64 m] wr fun e w' => e = .returned (.int .i64 (p.brk i n m).1) /\ KQ w bk bp w' k (p.brk i n m).2 := by
 obtain ⟨vk, D, hx, gd, hF, ho⟩ := h
 refine (break_px hx.pw i n m hk).mono ?_
 rintro e w' ⟨rfl, pn⟩
 exact ⟨rfl, KQ.turn hx (brk_keep gd i n m hk hm).gd hF ho pn⟩
end
theorem findK_pos {l : List Kn} {x y : Int} (h : 0 <= findK l x y) : ∃ (n : Nat) (hn : n < l.length), findK l x y = n /\ l[n].sh = x /\ l[n].nu = y := by
 unfold findK at h ⊢
 split at h
 ·next n e =>
  obtain ⟨hn, h1, _⟩ := List.findIdx?_eq_some_iff_getElem.1 e
  have := of_decide_eq_true h1
  exact ⟨n, hn, rfl, this.1, this.2⟩
 ·omega
theorem findK_neg {l : List Kn} {x y : Int} (h : ∀ q ∈ l, ¬ (q.sh = x /\ q.nu = y)) : findK l x y = -1 := by
 unfold findK
 have : l.findIdx? (fun i => decide (i.sh = x /\ i.nu = y)) = none := by
  rw [List.findIdx?_eq_none_iff]
  intro q hq
  simpa using h q hq
 rw [this]
theorem findK_lt {l : List Kn} {x y : Int} (h : findK l x y < 0) : ∀ q ∈ l, ¬ (q.sh = x /\ q.nu = y) := by
 unfold findK at h
 split at h
 ·omega
 ·next e =>
  rw [List.findIdx?_eq_none_iff] at e
  intro q hq
  have := e q hq
  simpa using this
theorem findK_app {l m : List Kn} {x y : Int} (h : 0 <= findK l x y) : findK (l ++ m) x y = findK l x y := by
 unfold findK at h ⊢
 split at h
 ·next n e => rw [List.findIdx?_append, e]; rfl
 ·omega
def hasD (l : List Dd) (x y : Int) : Bool := l.any (fun d => decide (d.sh = x /\ d.nu = y))
theorem hasD_iff {l : List Dd} {x y : Int} : hasD l x y = true ↔ ∃ d ∈ l, d.sh = x /\ d.nu = y := by
 unfold hasD
 simp
def newK (kn : List Kn) (l : List Dd) : List Kn := kn ++ (l.filter (fun d => decide (findK kn d.sh d.nu < 0))).map (fun d => ⟨d.sh, d.nu, 1⟩)
def settle (l : List Dd) (q : Kn) : Kn := if q.how = 3 then { q with how := if hasD l q.sh q.nu = true then 1 else 2 } else q
structure RightOk (k : Kp) (l : List Dd) : Prop where
 nd : ∀ i j (hi : i < l.length) (hj : j < i), ¬ ((l[j]'(by omega)).sh = l[i].sh /\ (l[j]'(by omega)).nu = l[i].nu)
 f2 : ∀ d ∈ l, ∀ q ∈ k.kn, q.sh = d.sh -> q.nu = d.nu -> q.how ≠ 2
 dd : ∀ d ∈ l, 0 <= findK k.kn d.sh d.nu ∨ (d.sh = 0 /\ k.d0 = true) ∨ (d.sh = 1 /\ k.d1 = true)
 th : ∀ q ∈ k.kn, q.how = 1 -> hasD l q.sh q.nu = true
def Kp.right (k : Kp) (l : List Dd) (a b : Mk) : Kp := ⟨(newK k.kn l).map (settle l), false, false, a, b⟩
theorem newK_nil (kn : List Kn) : newK kn [] = kn := by simp [newK]
theorem newK_old {kn : List Kn} {l : List Dd} {i : Nat} (hi : i < l.length) (h : 0 <= findK kn l[i].sh l[i].nu) : newK kn (l.take (i + 1)) = newK kn (l.take i) := by
 unfold newK
 rw [List.take_succ_eq_append_getElem hi, List.filter_append, List.filter_cons_of_neg (by simpa using h)]
 simp
theorem newK_new {kn : List Kn} {l : List Dd} {i : Nat} (hi : i < l.length) (h : findK kn l[i].sh l[i].nu < 0) : newK kn (l.take (i + 1)) = newK kn (l.take i) ++ [⟨l[i].sh, l[i].nu, 1⟩] := by
 unfold newK
 rw [List.take_succ_eq_append_getElem hi, List.filter_append, List.filter_cons_of_pos (by simpa using h)]
 simp
theorem newK_find_old {kn : List Kn} {l : List Dd} {x y : Int} (h : 0 <= findK kn x y) : findK (newK kn l) x y = findK kn x y := findK_app h
theorem newK_find_new {k : Kp} {l : List Dd} (ok : RightOk k l) {i : Nat} (hi : i < l.length) (h : findK k.kn l[i].sh l[i].nu < 0) : findK (newK k.kn (l.take i)) l[i].sh l[i].nu = -1 := by
 refine findK_neg fun q hq => ?_
 unfold newK at hq
 rcases List.mem_append.1 hq with hq | hq
 ·exact findK_lt h q hq
 ·obtain ⟨d, hd, rfl⟩ := List.mem_map.1 hq
  obtain ⟨j, hj, rfl⟩ := List.mem_take_iff_getElem.1 (List.mem_filter.1 hd).1
  exact ok.nd i j hi (by omega)
theorem newK_len (kn : List Kn) (l : List Dd) : (newK kn l).length <= kn.length + l.length := by
 unfold newK
 rw [List.length_append, List.length_map]
 have := List.length_filter_le (fun d : Dd => decide (findK kn d.sh d.nu < 0)) l
 omega
theorem newK_th {k : Kp} {l : List Dd} (ok : RightOk k l) : ∀ q ∈ newK k.kn l, q.how = 1 -> hasD l q.sh q.nu = true := fun q hq h1 => by
 unfold newK at hq
 rcases List.mem_append.1 hq with hq | hq
 ·exact ok.th q hq h1
 ·obtain ⟨d, hd, rfl⟩ := List.mem_map.1 hq
  exact hasD_iff.2 ⟨d, (List.mem_filter.1 hd).1, rfl, rfl⟩
theorem ownD_at {B : Nat} {w : World} {v : Value} {l : List Dd} (h : OwnD B w v l) : ∃ a c, v = .slice a l.length c /\ (0 < l.length -> ∃ g off, a = some ⟨g, off, none⟩ /\ ∀ k (hk : k < l.length), w.cell? ⟨g, off + k * 2, none⟩ = some (.int .i64 l[k].sh) /\ w.cell? ⟨g, off + k * 2 + 1, none⟩ = some (.int .i64 l[k].nu)) := by
 obtain ⟨a, c, rfl, hx⟩ := Lies.of_own h
 refine ⟨a, c, rfl, fun h0 => ?_⟩
 obtain ⟨g, off, rfl, hc⟩ := hx h0
 refine ⟨g, off, rfl, fun k hk => ?_⟩
 have d : ∀ j (hj : j < 2) u, l[k].cells[j]? = some u -> w.cell? ⟨g, off + k * 2 + j, none⟩ = some u := fun j hj u hu => by
  have := hc (2 * k + j) u (by rw [flatD_at l k j hk hj]; exact hu)
  rw [show off + (2 * k + j) = off + k * 2 + j by omega] at this
  exact this
 exact ⟨d 0 (by omega) _ rfl, d 1 (by omega) _ rfl⟩
theorem right_plain (bk bp : Nat) (vk : Value) (D : Nat -> Prop) (kp : Kp) (p : Pr) (w : World) (l : List Dd) (h : KX w bk bp vk D kp p) (h0 : p.upE 0 = 0) (h1 : p.upE 1 = 0) (hn : kp.kn.length <= 1000000) (hL : l.length <= 1000000)
  (nd : ∀ i j (hi : i < l.length) (hj : j < i), ¬ ((l[j]'(by omega)).sh = l[i].sh /\ (l[j]'(by omega)).nu = l[i].nu)) (fd : ∀ d ∈ l, 0 <= findK kp.kn d.sh d.nu) (h1' : ∀ q ∈ kp.kn, q.how = 1) (th : ∀ q ∈ kp.kn, hasD l q.sh q.nu = true)
  (rs : ∀ K : Kp, K.m0 = kp.m0 -> K.m1 = kp.m1 -> (K.rises (p.marks 0) (p.marks 1)) = (true, { K with m0 := p.marks 0, m1 := p.marks 1 }))
  (PL : ∀ W, KX W bk bp vk D kp p -> Calls Tryz.prog 26 #[.pointer (some ⟨bk, 0, none⟩)] W fun e w' => ∃ v, e = .returned (.tuple #[v, .bool true]) /\ OwnD W.heap.size w' v l /\ W.grownBy w' none) :
  Calls Tryz.prog 25 #[.pointer (some ⟨bk, 0, none⟩)] w fun e w' => e = .returned (.bool true) /\ KN w w' bk bp vk D ⟨kp.kn, false, false, p.marks 0, p.marks 1⟩ p := by
 obtain ⟨ka, kc, rfl, hK⟩ := lies_of h.ow
 have HH := Hid.mk' h
 have P1 := Hid.mk' (PL _ h)
 have ND := Hid.mk' nd
 have FD := Hid.mk' fd
 have H1 := Hid.mk' h1'
 have TH := Hid.mk' th
 have RS := Hid.mk' rs
 have UP := Hid.mk' (And.intro h0 h1)
 have CF := Hid.mk' fun W (g : w.grownBy W none) x y => findK_any kp.kn x y bk _ W ((h.grown g).at_.c 1 _ rfl) (h.grown g).ow (by omega)
 have KC := Hid.mk' hK
 obtain ⟨N, hN⟩ : ∃ N, kp.kn.length = N := ⟨_, rfl⟩
 have HN := Hid.mk' hN
 have hlt := h.at_.lt
 clear nd fd h1' th rs h0 h1 PL hK h
 rw [hN] at HH KC hn
 clear hN
 go_enter Tryz.func25, Tryz.ntmps25
 go_wp2_with fail
 refine Calls.mono P1.out ?_
 rintro e w1 ⟨v, rfl, ow, g1⟩
 obtain ⟨a, c, hv, hx⟩ := ownD_at ow
 obtain ⟨L, hl⟩ : ∃ L, l.length = L := ⟨_, rfl⟩
 rw [hl] at hv
 subst hv
 have HL := Hid.mk' hl
 have HX := Hid.mk' hx
 have G1 := Hid.mk' g1
 clear ow g1 hx
 rw [hl] at hL
 clear hl P1
 go_wp2_with fail
 go_loopw [5] (fun f wr => ∃ i : Nat, i <= L /\ f = .int .i64 i /\ w1.grownBy wr none) (fun f _ => L - (intOf f).toNat)
 case atStart => exact ⟨0, by omega, rfl, grownBy_refl _ _⟩
 case round =>
  obtain ⟨i, hi, rfl, gi⟩ := hrel
  have GI := Hid.mk' gi
  clear gi
  by_cases hlt' : i < L
  ·have hil : i < l.length := by rw [HL.out]; exact hlt'
   obtain ⟨g, off, rfl, hc⟩ := HX.out (by omega)
   have HC := Hid.mk' hc
   have y0 : (0 : Int) <= (i : Int) := by omega
   have y1 : (i : Int) < (L : Int) := by omega
   obtain ⟨x, hx⟩ : ∃ x, l[i] = x := ⟨_, rfl⟩
   have HXI := Hid.mk' hx
   clear hx
   go_wp2_with fail
   go_loopw [6] (fun f wq => ∃ j : Nat, j <= i /\ f = .int .i64 j /\ w1.grownBy wq none) (fun f _ => i - (intOf f).toNat)
   case atStart => exact ⟨0, by omega, rfl, GI.out⟩
   case round =>
    obtain ⟨j, hj, rfl, gj⟩ := hrel
    have GJ := Hid.mk' gj
    have i0 := GJ.out.cell (HC.out i hil).1 (by simp)
    have i1 := GJ.out.cell (HC.out i hil).2 (by simp)
    rw [HXI.out] at i0 i1
    by_cases hji : j < i
    ·have hjl : j < l.length := by omega
     have j0 := GJ.out.cell (HC.out j hjl).1 (by simp)
     have j1 := GJ.out.cell (HC.out j hjl).2 (by simp)
     have ne := ND.out i j hil hji
     rw [HXI.out] at ne
     have z0 : (0 : Int) <= (j : Int) := by omega
     have z1 : (j : Int) < (L : Int) := by omega
     have z2 : (j : Int) < (i : Int) := by omega
     by_cases e1 : l[j].sh = x.sh
     ·have e2 : ¬ l[j].nu = x.nu := fun e => ne ⟨e1, e⟩
      have e2' : (l[j].nu == x.nu) = false := by simpa using e2
      rw [e1] at j0
      generalize l[j].nu = jn at j1 e2'
      clear ne e1 e2 gj
      go_wp2_with fail
      go_quiet (fail)
      go_wp2
      exact ⟨⟨j + 1, by omega, by go_num, grownBy_drewN GJ.out nq⟩, by simp [intOf]; omega⟩
     ·have e1' : (l[j].sh == x.sh) = false := by simpa using e1
      generalize l[j].nu = jn at j1 ne
      generalize l[j].sh = js at j0 e1' ne e1
      clear ne e1 gj
      go_wp2_with fail
      go_quiet (fail)
      go_wp2
      exact ⟨⟨j + 1, by omega, by go_num, grownBy_drewN GJ.out nq⟩, by simp [intOf]; omega⟩
    ·obtain rfl : j = i := by omega
     have z2 : ¬ (j : Int) < (j : Int) := by omega
     clear gj
     go_wp2_with fail
     refine Calls.mono (CF.out _ (G1.out.trans GJ.out) x.sh x.nu) ?_
     rintro e w2 ⟨rfl, g2⟩
     have G2 := Hid.mk' (GJ.out.trans g2)
     clear g2 i0 i1
     obtain ⟨n, hnl, hf, _, _⟩ := findK_pos (FD.out x (by rw [<- HXI.out]; exact List.getElem_mem hil))
     rw [hf]
     have g2' := G1.out.trans G2.out
     have K2 := Hid.mk' (HH.out.grown g2')
     obtain ⟨kg, koff, rfl, hk⟩ := KC.out (by rw [<- HN.out]; omega)
     have kc1 := K2.out.at_.c 1 _ rfl
     have k2 : w2.cell? ⟨kg, koff + n * 3 + 2, none⟩ = some (.int .i64 1) := by
      have := hk (3 * n + 2) (.int .i64 1) (by rw [flat_at3 kp.kn n 2 hnl (by omega)]; have e := H1.out kp.kn[n] (List.getElem_mem hnl); simp [Kn.cells, e])
      rw [show koff + (3 * n + 2) = koff + n * 3 + 2 by omega] at this
      exact g2'.cell this (by simp)
     have n0 : (0 : Int) <= (n : Int) := by omega
     have n1 : (n : Int) < (N : Int) := by rw [<- HN.out]; omega
     have n2 : ¬ (n : Int) < 0 := by omega
     clear hk hf g2'
     go_wp2
     exact ⟨⟨j + 1, by omega, by go_num, G2.out⟩, by simp [intOf]; omega⟩
  ·obtain rfl : i = L := by omega
   have y1 : ¬ (i : Int) < (i : Int) := by omega
   go_wp2_with fail
   go_loopw [8] (fun f wq => ∃ n : Nat, n <= N /\ f = .int .i64 n /\ w1.grownBy wq none) (fun f _ => N - (intOf f).toNat)
   case atStart => exact ⟨0, by omega, rfl, GI.out⟩
   case round =>
    obtain ⟨n, hn', rfl, gn⟩ := hrel
    have GN := Hid.mk' gn
    have K2 := Hid.mk' (HH.out.grown (G1.out.trans gn))
    have kc1 := K2.out.at_.c 1 _ rfl
    have klt := K2.out.at_.lt
    clear gn
    by_cases hnN : n < N
    ·have hnl : n < kp.kn.length := by rw [HN.out]; exact hnN
     obtain ⟨kg, koff, rfl, hk⟩ := KC.out (by rw [<- HN.out]; omega)
     have n0 : (0 : Int) <= (n : Int) := by omega
     have n1 : (n : Int) < (N : Int) := by omega
     obtain ⟨q, hq⟩ : ∃ q, kp.kn[n] = q := ⟨_, rfl⟩
     have KD : Hid (∀ W, w1.grownBy W none -> W.cell? ⟨kg, koff + n * 3, none⟩ = some (.int .i64 q.sh) /\ W.cell? ⟨kg, koff + n * 3 + 1, none⟩ = some (.int .i64 q.nu) /\ W.cell? ⟨kg, koff + n * 3 + 2, none⟩ = some (.int .i64 1)) := Hid.mk' fun W gW => by
      have h1 : q.how = 1 := by rw [<- hq]; exact H1.out kp.kn[n] (List.getElem_mem hnl)
      have d : ∀ j (hj : j < 3) u, q.cells[j]? = some u -> W.cell? ⟨kg, koff + n * 3 + j, none⟩ = some u := fun j hj u hu => by
       have := hk (3 * n + j) u (by rw [flat_at3 kp.kn n j hnl hj, hq]; exact hu)
       rw [show koff + (3 * n + j) = koff + n * 3 + j by omega] at this
       exact (G1.out.trans gW).cell this (by simp)
      exact ⟨d 0 (by omega) _ rfl, d 1 (by omega) _ rfl, d 2 (by omega) _ (by simp [Kn.cells, h1])⟩
     have TQ : Hid (hasD l q.sh q.nu = true) := Hid.mk' (by rw [<- hq]; exact TH.out kp.kn[n] (List.getElem_mem hnl))
     clear hk hq
     go_wp2_with fail
     go_loopw [9, 10] (fun b f wx => ∃ j : Nat, j <= i /\ f = .int .i64 j /\ b = .bool (hasD (l.take j) q.sh q.nu) /\ w1.grownBy wx none) (fun _ f _ => i - (intOf f).toNat)
     case atStart => exact ⟨0, by omega, rfl, rfl, GN.out⟩
     case round =>
      obtain ⟨j, hj, rfl, rfl, gj⟩ := hrel
      have GJ := Hid.mk' gj
      have K3 := Hid.mk' (HH.out.grown (G1.out.trans gj))
      have kc2 := K3.out.at_.c 1 _ rfl
      have klt2 := K3.out.at_.lt
      obtain ⟨q0, q1, q2⟩ := KD.out _ gj
      clear gj
      by_cases hji : j < i
      ·have hjl : j < l.length := by rw [HL.out]; exact hji
       obtain ⟨g, off, rfl, hc⟩ := HX.out (by rw [HL.out]; omega)
       have j0 := GJ.out.cell (hc j hjl).1 (by simp)
       have j1 := GJ.out.cell (hc j hjl).2 (by simp)
       have z0 : (0 : Int) <= (j : Int) := by omega
       have z1 : (j : Int) < (i : Int) := by omega
       have HT : Hid (hasD (l.take (j + 1)) q.sh q.nu = (hasD (l.take j) q.sh q.nu || decide (l[j].sh = q.sh /\ l[j].nu = q.nu))) := Hid.mk' (by
        unfold hasD
        rw [List.take_succ_eq_append_getElem hjl, List.any_append]
        simp)
       clear hc
       obtain ⟨dj, hdj⟩ : ∃ dj, l[j] = dj := ⟨_, rfl⟩
       rw [hdj] at j0 j1 HT
       clear hdj
       generalize hasD (l.take j) q.sh q.nu = H at HT ⊢
       cases H
       ·by_cases e1 : dj.sh = q.sh
        ·by_cases e2 : dj.nu = q.nu
         ·rw [e1] at j0
          rw [e2] at j1
          go_wp2_with fail
          go_quiet (fail)
          go_wp2
          refine ⟨⟨j + 1, by omega, by go_num, ?_, grownBy_drewN GJ.out nq⟩, by simp [intOf]; omega⟩
          rw [HT.out]; simp [e1, e2]
         ·have e2' : (dj.nu == q.nu) = false := by simpa using e2
          rw [e1] at j0
          go_wp2_with fail
          go_quiet (fail)
          go_wp2
          refine ⟨⟨j + 1, by omega, by go_num, ?_, grownBy_drewN GJ.out nq⟩, by simp [intOf]; omega⟩
          rw [HT.out]; simp [e2]
        ·have e1' : (dj.sh == q.sh) = false := by simpa using e1
         go_wp2_with fail
         go_quiet (fail)
         go_wp2
         refine ⟨⟨j + 1, by omega, by go_num, ?_, grownBy_drewN GJ.out nq⟩, by simp [intOf]; omega⟩
         rw [HT.out]; simp [e1]
       ·go_wp2_with fail
        go_quiet (fail)
        go_wp2
        refine ⟨⟨j + 1, by omega, by go_num, ?_, grownBy_drewN GJ.out nq⟩, by simp [intOf]; omega⟩
        rw [HT.out]; simp
      ·obtain rfl : j = i := by omega
       have z1 : ¬ (j : Int) < (j : Int) := by omega
       have tt : l.take j = l := List.take_of_length_le (by rw [HL.out]; omega)
       rw [tt, TQ.out]
       go_wp2
       exact ⟨⟨n + 1, by omega, by go_num, GJ.out⟩, by simp [intOf]; omega⟩
    ·obtain rfl : n = N := by omega
     have n1 : ¬ (n : Int) < (n : Int) := by omega
     have c2 := K2.out.at_.c 2 _ rfl
     have c3 := K2.out.at_.c 3 _ rfl
     have fK := K2.out.at_.f
     have G3 := Hid.mk' (G1.out.trans GN.out)
     go_wp2_with fail
     have X : Hid (KM w ((wr.setCell ⟨bk, 2, none⟩ (.bool false)).setCell ⟨bk, 3, none⟩ (.bool false)) bk bp (.slice ka n kc) D (.slice ka n kc) ⟨kp.kn, false, false, kp.m0, kp.m1⟩ p) :=
      Hid.mk' (((KX.kn1 K2.out (KS.grown G3.out)).put (k' := ⟨kp.kn, false, kp.d1, kp.m0, kp.m1⟩) 2 (.bool false) (by omega) rfl rfl).put (k' := ⟨kp.kn, false, false, kp.m0, kp.m1⟩) 3 (.bool false) (by omega) rfl rfl)
     generalize (wr.setCell ⟨bk, 2, none⟩ (.bool false)).setCell ⟨bk, 3, none⟩ (.bool false) = W3 at X ⊢
     obtain ⟨E, hx, hs⟩ := X.out
     have R1 := rises_any bk bp _ E _ p W3 hx UP.out.1 UP.out.2
     rw [RS.out ⟨kp.kn, false, false, kp.m0, kp.m1⟩ rfl rfl] at R1
     have HS := Hid.mk' hs
     have R2 := Hid.mk' R1
     clear R1 hx hs X c2 c3 fK
     refine Calls.mono R2.out ?_
     rintro e w4 ⟨rfl, vk', E', x1, x2, x3⟩
     have N4 : Hid (KN w w4 bk bp (.slice ka n kc) D ⟨kp.kn, false, false, p.marks 0, p.marks 1⟩ p) := Hid.mk' (KS.kn (HS.out.trans ⟨x2, x3⟩) x1)
     clear x1 x2 x3
     go_wp2
     go_ret
     exact ⟨rfl, by rw [HN.out]; exact N4.out⟩
theorem setSh_sh {p : Pr} {i : Int} (hi : is01 i) (s : Sh) : (p.setSh i s).sh i = s := by
 rcases hi with rfl | rfl <;> rfl
theorem told_ok {p : Pr} (gd : PGd p) (i : Int) : ((p.world i).length <= 1000 /\ ∀ x ∈ p.world i, Fine x) /\ ((p.outbox i).length <= 1000 /\ ∀ x ∈ p.outbox i, Fine x.it) := by
 unfold Pr.world Pr.outbox
 by_cases hu : p.upE i = 0
 ·rw [if_pos hu, if_pos hu]
  obtain ⟨hi, up⟩ := upE_at hu
  obtain ⟨⟨r, g⟩, _⟩ := gd.at hi
  obtain ⟨_, _, _, _, _, has, _⟩ := g.has up
  have h1 := has.tl
  have h2 := has.ol
  have h3 := g.i1
  have h4 := g.o1
  exact ⟨⟨by show (p.sh i).ds.it.length <= _; omega, fun x hx => fine_of (has.it x hx).1⟩, ⟨by show (p.sh i).ds.ob.length <= _; omega, fun x hx => fine_of (has.en x hx).1⟩⟩
 ·rw [if_neg hu, if_neg hu]
  simp
def kpK : Kp := ⟨[⟨0, 1, 1⟩], false, false, ⟨1, 1, 1, 0, 0⟩, ⟨1, 0, 0, 0, 1⟩⟩
section
variable {w wr : World} {bk bp : Nat} {cI cO cJ : Int}
theorem kept_right {wq : World} (h : KQ w bk bp wr ⟨[⟨0, 1, 1⟩], false, false, mk0, mk0⟩ (prK cI cO cJ)) (g : wr.grownBy wq none) :
  Calls Tryz.prog 25 #[.pointer (some ⟨bk, 0, none⟩)] wq fun e w' => e = .returned (.bool true) /\ KQ w bk bp w' kpK (prK cI cO cJ) /\ Only wq w' (fun j => j < wr.heap.size) := by
 obtain ⟨vk, D, hx0, gd, hF, ho0⟩ := h
 have hx := hx0.grown g
 have ho := ho0.trans ((Only.grown g).mono (A' := fun k => w.heap.size <= k ∨ w.heap.size <= k) (by simp))
 have hp : (prK cI cO cJ).there 0 ++ (prK cI cO cJ).there 1 = [⟨0, 1⟩] := by
  have := congrArg Prod.fst (kept_places cI cO cJ)
  unfold Pr.places at this
  rw [if_pos (kept_up cI cO cJ)] at this
  exact this
 refine (right_plain bk bp vk D ⟨[⟨0, 1, 1⟩], false, false, mk0, mk0⟩ (prK cI cO cJ) wq [⟨0, 1⟩] hx (kept_up cI cO cJ).1 (kept_up cI cO cJ).2 (by simp) (by simp) ?_ ?_ ?_ ?_ ?_ (fun W hW => ?_)).mono ?_
 ·intro i j hi hj
  simp at hi
  omega
 ·intro d hd
  obtain rfl : d = ⟨0, 1⟩ := by simpa using hd
  decide
 ·intro q hq
  obtain rfl : q = ⟨0, 1, 1⟩ := by simpa using hq
  rfl
 ·intro q hq
  obtain rfl : q = ⟨0, 1, 1⟩ := by simpa using hq
  decide
 ·intro K e0 e1
  have z0 : fellB ((prK cI cO cJ).marks 0) mk0 ((prK cI cO cJ).marks 1) = false := by kernel_rfl
  have z1 : fellB ((prK cI cO cJ).marks 1) mk0 ((prK cI cO cJ).marks 0) = false := by kernel_rfl
  unfold Kp.rises
  rw [e0, e1, if_neg (by rw [z0]; simp), if_neg (by rw [z1]; simp)]
 ·rw [<- hp]
  exact places_any bk bp vk D _ _ W hW gd (kept_up cI cO cJ).1 (kept_up cI cO cJ).2 (fun i => ⟨(told_ok gd i).1.1, (told_ok gd i).2.1⟩)
 ·rintro e w' ⟨rfl, n⟩
  have o := n
  obtain ⟨_, _, _, _, o⟩ := o
  exact ⟨rfl, KQ.kn gd hF ho n, o.mono (fun j _ hj => hx0.ltF hj)⟩
theorem kept_minted (h : KQ w bk bp wr ⟨[], false, false, mk0, mk0⟩ (Pr.new cI cO cJ)) (hI : 1 <= cI) (hJ : 400 <= cJ) (t : ByteArray) :
  Calls Tryz.prog 32 #[.pointer (some ⟨bk, 0, none⟩), .int .i64 0, acV 0 0 0 0 0 0 1065353216 1073741824 t] wr fun e w' => e = .returned (.bool true) /\ KQ w bk bp w' ⟨[⟨0, 1, 1⟩], false, false, mk0, mk0⟩ ⟨sh2 cI cO cJ, sh1 1 cI cO cJ, [], []⟩ := by
 obtain ⟨vk, D, hx, gd, hF, ho⟩ := h
 have km := kept_mint cI cO cJ hI hJ
 have kk := mint_keep gd 0 (sideF 1065353216 0) (speedF 1073741824) (sideF_lt (by omega) 0) (speedF_ok (by omega)).2
 refine (minted_any bk bp vk D _ _ 0 0 0 0 0 0 0 1065353216 1073741824 t wr hx gd (.inl rfl) (by omega) (by omega) (by simp)).mono ?_
 rw [km] at kk ⊢
 rw [(new_up cI cO cJ).1]
 dsimp only
 rw [kept_known]
 rintro e w' ⟨rfl, n⟩
 exact ⟨rfl, KQ.kn kk.gd hF ho n⟩
end
theorem kept_any (cI cO cJ : Int) (w : World) (hv : cfgB cI cO cJ) (hJ : 400 <= cJ) :
  Calls Tryz.prog 10 #[.agg #[.int .i64 cI, .int .i64 cO, .int .i64 cJ]] w fun e w' => ∃ bk bp, e = .returned (.pointer (some ⟨bk, 0, none⟩)) /\ KQ w bk bp w' kpK (prK cI cO cJ) := by
 have hI : 1 <= cI := hv.1.1
 have hO : 1 <= cO := hv.2.1.1
 have hsf := run_store_float
 have G0 := Hid.mk' (World.grownBy_alloc w (.cells #[.int .i64 cI, .int .i64 cO, .int .i64 cJ] 23) none)
 have N1 := Hid.mk' fun W => new_px cI cO cJ W hv
 have V1 := Hid.mk' hv
 have B1 := Hid.mk' (And.intro hI (And.intro hO hJ))
 clear hv hI hO hJ
 go_enter Tryz.func10, Tryz.ntmps10
 go_wp2_with fail
 refine Calls.mono (N1.out _) ?_
 rintro e w1 ⟨bp, rfl, pw, hb, g1⟩
 have X1 := Hid.mk' (And.intro pw (And.intro hb g1))
 clear pw hb g1
 have Q1 : Hid (KQ w w1.heap.size bp (w1.alloc (.cells #[.pointer (some ⟨bp, 0, none⟩), .slice none 0 0, .bool false, .bool false, .int .i64 0, .int .i64 0, .int .i64 0, .int .i64 0, .int .i64 0, .int .i64 0, .int .i64 0, .int .i64 0, .int .i64 0, .int .i64 0] 47)) ⟨[], false, false, mk0, mk0⟩ (Pr.new cI cO cJ)) := by
  obtain ⟨pw, hb, g1⟩ := X1.out
  have z1 := G0.out.size
  have z2 := g1.size
  have pw' : PW w1 bp (fun j => w.heap.size <= j /\ j < w1.heap.size) (Pr.new cI cO cJ) := pw.mono (fun j hj hA => ⟨by omega, hj⟩)
  refine Hid.mk' ⟨.slice none 0 0, (fun j => w.heap.size <= j /\ j < w1.heap.size), ⟨At.new w1 (kpC bp (.slice none 0 0) ⟨[], false, false, mk0, mk0⟩) 47, World.ownsRow_nil _ _ _ _, pw'.grown (World.grownBy_alloc w1 _ none), fun j hj => by simp; omega, fun hj => by omega, fun j hj => by cases hj⟩, new_gd cI cO cJ V1.out, fun j hj => ?_, (Only.grown ((G0.out.trans g1).trans (World.grownBy_alloc w1 _ none))).mono (by simp)⟩
  rcases hj with rfl | hj | hj
  ·omega
  ·cases hj
  ·exact hj.1
 go_wp2_with fail
 generalize w1.alloc (.cells #[.pointer (some ⟨bp, 0, none⟩), .slice none 0 0, .bool false, .bool false, .int .i64 0, .int .i64 0, .int .i64 0, .int .i64 0, .int .i64 0, .int .i64 0, .int .i64 0, .int .i64 0, .int .i64 0, .int .i64 0] 47) = W1 at Q1 ⊢
 generalize w1.heap.size = bk at Q1 ⊢
 clear X1
 refine Calls.mono (kept_minted Q1.out B1.out.1 B1.out.2.2 _) ?_
 rintro e w2 ⟨rfl, q2⟩
 have Q2 := Hid.mk' q2
 have C2 := Hid.mk' (q2.tick 0)
 rw [kept_tick cI cO cJ B1.out.2.1 B1.out.2.2] at C2
 clear q2 Q1
 go_wp2_with fail
 refine Calls.mono C2.out ?_
 rintro e w3 ⟨rfl, q3⟩
 have Q3 := Hid.mk' q3
 have C3 := Hid.mk' (q3.send 0)
 rw [kept_send cI cO cJ] at C3
 clear q3 Q2 C2
 go_wp2_with fail
 refine Calls.mono C3.out ?_
 rintro e w4 ⟨rfl, q4⟩
 have C4 := Hid.mk' (q4.deliver 1 0)
 rw [kept_deliver cI cO cJ B1.out.1 B1.out.2.2] at C4
 clear q4 Q3 C3
 go_wp2_with fail
 refine Calls.mono C4.out ?_
 rintro e w5 ⟨rfl, q5⟩
 have Q5 : Hid (KQ w bk bp w5 ⟨[⟨0, 1, 1⟩], false, false, mk0, mk0⟩ (prK cI cO cJ)) := Hid.mk' q5
 have C5 := Hid.mk' (Q5.out.world 1)
 rw [(kept_up cI cO cJ).2, kept_world cI cO cJ] at C5
 clear q5 C4
 go_wp2_with fail
 refine Calls.mono C5.out ?_
 rintro e w6 ⟨v6, rfl, o6, g6⟩
 obtain ⟨a6, c6, rfl, hx6⟩ := itm_at o6
 obtain ⟨g, rfl, hg1, hg2, hc⟩ := hx6 (by decide)
 have hc0 := hc 0 (by decide)
 have C6 := Hid.mk' (kept_right Q5.out g6)
 have X6 := Hid.mk' (And.intro hg1 hc0)
 clear o6 hx6 hc hc0 C5 hg1 hg2
 go_wp2_with fail
 refine Calls.mono C6.out ?_
 rintro e w7 ⟨rfl, q7, o7⟩
 have i0 : w7.cell? ⟨g, 0, none⟩ = some (.int .i64 0) := o7.cell X6.out.2.1 (by have := X6.out.1; show ¬ g < _; omega)
 have i1 : w7.cell? ⟨g, 1, none⟩ = some (.int .i64 1) := o7.cell X6.out.2.2 (by have := X6.out.1; show ¬ g < _; omega)
 have Q7 := Hid.mk' q7
 obtain ⟨vk, D, hx, gd, hF, ho⟩ := q7
 obtain ⟨ka, kc, rfl, hK⟩ := lies_of hx.ow
 obtain ⟨kg, koff, rfl, hk⟩ := hK (by decide)
 have k0 : w7.cell? ⟨kg, koff, none⟩ = some (.int .i64 0) := hk 0 _ rfl
 have k1 : w7.cell? ⟨kg, koff + 1, none⟩ = some (.int .i64 1) := hk 1 _ rfl
 have kb : w7.cell? ⟨bk, 1, none⟩ = some (.slice (some ⟨kg, koff, none⟩) 1 kc) := hx.at_.c 1 _ rfl
 have klt := hx.at_.lt
 clear hx gd hF ho hK hk o7 C6 X6 Q5
 go_wp2_with fail
 go_quiet (fail)
 go_wp2
 go_ret
 exact ⟨bk, bp, rfl, Q7.out.grown (grownBy_drewN (grownBy_refl _ _) nq)⟩
structure Al where
 K : Int
 sh : Int
 k : Int
 m : Int
 x : Int
 y : Int
 pl : Nat
 sp : Nat
 t : ByteArray
def Al.cells (a : Al) : List Value := [.int .i64 a.K, .int .i64 a.sh, .int .i64 a.k, .int .i64 a.m, .int .i64 a.x, .int .i64 a.y, .float .f32 a.pl, .float .f32 a.sp, .string a.t]
structure Al.Ok (a : Al) : Prop where
 sh : i64B a.sh
 k : i64B a.k
 m : i64B a.m
 pl : a.pl < 4294967296
 sp : a.sp < 4294967296
theorem flat_atL (as' : List Al) (k j : Nat) (hk : k < as'.length) (hj : j < 9) : (as'.flatMap Al.cells)[9 * k + j]? = as'[k].cells[j]? := by
 induction as' generalizing k with
 | nil => simp at hk
 | cons a t ih =>
  rw [List.flatMap_cons]
  cases k with
  | zero => rw [List.getElem?_append_left (by simp [Al.cells]; omega)]; simp
  | succ k =>
   rw [List.getElem?_append_right (by simp [Al.cells]; omega)]
   rw [show 9 * (k + 1) + j - a.cells.length = 9 * k + j by simp [Al.cells]; omega]
   simpa using ih k (by simpa using hk)
def LiesL (w : World) (v : Value) (l : List Al) : Prop := Lies w v l.length (l.flatMap Al.cells)
def Sh.lasts (s : Sh) : Ds := s.restart.ds
theorem lasts_fl {s : Sh} {c : Nat} {rs : List Rc} (hc : c < 2) (fl : Fl s.no s.cI s.cO s.dk c rs) (i1 : s.cI <= 16) (o1 : s.cO <= 8) : s.lasts = dsOf s.no s.cO rs := by
 obtain ⟨t, ht, hs, hn⟩ := fl.file
 have e1 : scanL (s.dk.file c) = rs := by rw [ht, (scan_frms fl.told t).1, hs, List.append_nil]
 have oth := fl.oth
 have ch : s.dk.choice = c := by
  unfold Dk.choice
  rcases (by omega : c = 0 ∨ c = 1) with rfl | rfl
  ·have a1 : scanL s.dk.f0 = rs := e1
   have a2 : genOf (scanL s.dk.f1) < genOf rs := oth
   rw [a1, if_neg (by omega)]
  ·have a1 : scanL s.dk.f1 = rs := e1
   have a2 : genOf (scanL s.dk.f0) < genOf rs := oth
   rw [a1, if_pos a2]
 have rn := fl.rp.runs i1 o1 s.begun rfl rfl rfl
 unfold Sh.lasts Sh.restart
 rw [ch, e1]
 exact rn.1
theorem lasts_up {s : Sh} {r : Rs} (h : Good s r) (hu : s.up = true) : s.lasts = s.ds := by
 obtain ⟨c, rs, hc, fl, hx⟩ := h.jn
 rw [(hx hu).2.2]
 exact lasts_fl hc fl h.i1 h.o1
theorem lasts_has {s : Sh} {r : Rs} (h : Good s r) : HasD s.no s.cI s.cO s.lasts := by
 obtain ⟨c, rs, hc, fl, hx⟩ := h.jn
 rw [lasts_fl hc fl h.i1 h.o1]
 exact fl.rp.facts.2.2.1
theorem lasts_crash {s : Sh} {r : Rs} (h : Good s r) (k : Int) : (s.down.on (s.dk.crash k)).lasts = s.lasts := by
 obtain ⟨c, rs, hc, fl, _⟩ := h.jn
 have wh : Wh s.dk c (s.dk.file c) (s.dk.file (1 - c)) := ⟨rfl, rfl, h.w0, h.w1⟩
 have hw := wh.crash hc k
 rw [lasts_fl hc fl h.i1 h.o1]
 refine lasts_fl (s := s.down.on (s.dk.crash k)) hc ⟨fl.told, fl.rp, ?_, ?_⟩ h.i1 h.o1
 ·obtain ⟨t, h1, h2⟩ := fl.file
  exact ⟨t, by rw [show (s.down.on (s.dk.crash k)).dk = s.dk.crash k from rfl, hw.f]; exact h1, h2⟩
 ·rw [show (s.down.on (s.dk.crash k)).dk = s.dk.crash k from rfl, hw.g]; exact fl.oth
theorem lasts_break {s : Sh} {r : Rs} (h : Good s r) (k m : Int) : (s.on { s.dk with un := k, kp := m }).lasts = s.lasts := by
 obtain ⟨c, rs, hc, fl, _⟩ := h.jn
 rw [lasts_fl hc fl h.i1 h.o1]
 exact lasts_fl (s := s.on { s.dk with un := k, kp := m }) hc ⟨fl.told, fl.rp, fl.file, fl.oth⟩ h.i1 h.o1
theorem lasts_restart {s : Sh} {r : Rs} (h : Good s r) : s.restart.lasts = s.lasts := lasts_up (restart_good h).2 rfl
theorem fl_part2 {no : Nat} {cI cO : Int} {d : Dk} {c : Nat} {rs : List Rc} {G : List UInt8} {p : Rc} {j : Nat} (told : ∀ r ∈ rs, Told r) (rp : Rp no cI cO rs (dsOf no cO rs)) (ho : genOf (scanL G) < genOf rs) (tp : Told p) (ok : DOk no cI (dsOf no cO rs) p) (hj : j <= (frm p).length) (h : Wh d c (frms rs ++ (frm p).take j) G) : Fl no cI cO d c rs ∨ Fl no cI cO d c (rs ++ [p]) := by
 by_cases hk : j < (frm p).length
 ·obtain ⟨a1, a2⟩ := scan_cut tp j hk
  exact .inl ⟨told, rp, ⟨_, h.f, a1, a2⟩, by rw [h.g]; exact ho⟩
 ·have e : j = (frm p).length := by omega
  subst e
  have pos := rp.facts.1
  refine .inr ⟨?_, ?_, ⟨[], ?_, scan_nil.1, scan_nil.2⟩, ?_⟩
  ·intro x hx
   rcases List.mem_append.1 hx with hx | hx
   ·exact told x hx
   ·rw [List.mem_singleton.1 hx]; exact tp
  ·rw [dsOf_snoc pos]
   exact .snoc p rp ok
  ·rw [h.f, List.take_length, frms_snoc, List.append_nil]
  ·rw [h.g, genOf_snoc pos]; exact ho
theorem jrn_step {s : Sh} {r : Rs} {p : Rc} (h : Good s r) (hu : s.up = true) (tp : Told p) (ok : DOk s.no s.cI s.ds p) :
  ((s.jrn p).1 = 5 /\ (s.jrn p).2 = s) ∨ ((s.jrn p).1 = 3 /\ (s.jrn p).2.up = false /\ ((s.jrn p).2.lasts = s.ds ∨ (s.jrn p).2.lasts = s.ds.doR s.no s.cO p)) ∨ ((s.jrn p).1 = 0 /\ (s.jrn p).2.up = true /\ (s.jrn p).2.ds = s.ds.doR s.no s.cO p) := by
 obtain ⟨rs, told, hf, hds, rp, has, hg, ho⟩ := h.has hu
 have wh : Wh s.dk s.ct (frms rs) (s.dk.file (1 - s.ct)) := ⟨hf, rfl, h.w0, h.w1⟩
 rw [<- hg] at ho
 have ap := wh.appended h.ct (frm p)
 have rp' := rp
 rw [hds] at rp'
 have ok' := ok
 rw [hds] at ok'
 have pos := rp.facts.1
 have e : dsOf s.no s.cO (rs ++ [p]) = s.ds.doR s.no s.cO p := by rw [dsOf_snoc pos, <- hds]
 have dn : ∀ (D : Dk), (∃ j, j <= (frm p).length /\ Wh D s.ct (frms rs ++ (frm p).take j) (s.dk.file (1 - s.ct))) -> (s.down.on D).lasts = s.ds ∨ (s.down.on D).lasts = s.ds.doR s.no s.cO p := by
  rintro D ⟨j, hj, hw⟩
  rcases fl_part2 told rp' ho tp ok' hj hw with fl | fl
  ·left
   rw [hds]
   exact lasts_fl (s := s.down.on D) h.ct fl h.i1 h.o1
  ·right
   rw [<- e]
   exact lasts_fl (s := s.down.on D) h.ct fl h.i1 h.o1
 unfold Sh.jrn
 split
 ·exact .inl ⟨rfl, rfl⟩
 split
 ·rename_i ha
  exact .inr (.inl ⟨rfl, rfl, dn _ (ap.1 ha)⟩)
 rename_i ha
 have ha' : (s.dk.append s.ct (frm p)).2 = true := by simpa using ha
 obtain ⟨ap1, ap2⟩ := ap.2 ha'
 split
 ·rename_i hb
  exact .inr (.inl ⟨rfl, rfl, dn _ (ap1 hb)⟩)
 ·have up := doR_up (s.on ((s.dk.append s.ct (frm p)).1.sync s.ct).1) p
  have nd : s.th.Pairwise (fun a b => ¬ a.same b) := nd_perm (srtTh_perm _).symm (has.ord.imp lt_ne)
  have dd := (doR_nd nd has ok).2
  refine .inr (.inr ⟨rfl, up.1.trans hu, ?_⟩)
  rw [doR_on]
  exact dd
def Ds.sameG (d e : Ds) : Prop := e.it = d.it /\ e.ob = d.ob /\ e.ms.m = d.ms.m /\ e.ms.s = d.ms.s /\ e.ms.a = d.ms.a /\ e.ms.n = d.ms.n
theorem Ds.sameG_refl (d : Ds) : d.sameG d := ⟨rfl, rfl, rfl, rfl, rfl, rfl⟩
theorem snap_step {s : Sh} {r : Rs} (h : Good s r) (hu : s.up = true) : s.ds.sameG s.snap.2.lasts := by
 obtain ⟨rs, told, hf, hds, rp, has, hg, ho⟩ := h.has hu
 have lu := lasts_up h hu
 have z : s.ds.sameG s.lasts := by rw [lu]; exact Ds.sameG_refl _
 have hct := h.ct
 have g0 : 0 <= s.ms.g := has.mo.g0
 have g1 : s.ms.g <= 65535 := has.mo.g1
 unfold Sh.snap
 by_cases c1 : s.ms.g = 65535
 ·rw [if_pos c1]
  exact z
 rw [if_neg c1]
 have e : s.snapRec = baseRc s.ds := rfl
 rw [e]
 split
 ·exact z
 have hlt : s.ds.ms.g < 65535 := by show s.ms.g < 65535; omega
 have tb := told_base has h.i1 h.o1 hlt
 have hb := has.base hlt
 have wh : Wh s.dk (1 - s.ct) (s.dk.file (1 - s.ct)) (frms rs) := ⟨rfl, by rw [show 1 - (1 - s.ct) = s.ct by omega]; exact hf, h.w0, h.w1⟩
 have hc1 : 1 - s.ct < 2 := by omega
 have old : ∀ (D : Dk) (l : List UInt8), scanL l = [] -> Wh D (1 - s.ct) l (frms rs) -> Fl s.no s.cI s.cO D s.ct rs := fun D l hl hw => by
  refine ⟨told, by rw [<- hds]; exact rp, ⟨[], by rw [List.append_nil]; have := hw.g; rwa [show 1 - (1 - s.ct) = s.ct by omega] at this, scan_nil.1, scan_nil.2⟩, ?_⟩
  rw [hw.f, hl, hg]
  show (-1 : Int) < _
  omega
 have new : ∀ (D : Dk), Wh D (1 - s.ct) (frm (baseRc s.ds)) (frms rs) -> Fl s.no s.cI s.cO D (1 - s.ct) [baseRc s.ds] := fun D hw => by
  have e1 : D.file (1 - s.ct) = frms [baseRc s.ds] := by rw [hw.f]; simp [frms]
  refine ⟨by intro x hx; rw [List.mem_singleton.1 hx]; exact tb, .base (baseRc s.ds) rfl hb, ⟨[], by rw [List.append_nil]; exact e1, scan_nil.1, scan_nil.2⟩, ?_⟩
  rw [hw.g, (scan_whole told).1, hg]
  show s.ms.g < s.ms.g + 1
  omega
 have zo : ∀ S : Sh, S.no = s.no -> S.cI = s.cI -> S.cO = s.cO -> Fl s.no s.cI s.cO S.dk s.ct rs -> s.ds.sameG S.lasts := fun S e1 e2 e3 fl => by
  have := lasts_fl (s := S) hct (by rw [e1, e2, e3]; exact fl) (by rw [e2]; exact h.i1) (by rw [e3]; exact h.o1)
  rw [this, e1, e3, <- hds]
  exact Ds.sameG_refl _
 have zn : ∀ S : Sh, S.no = s.no -> S.cI = s.cI -> S.cO = s.cO -> Fl s.no s.cI s.cO S.dk (1 - s.ct) [baseRc s.ds] -> s.ds.sameG S.lasts := fun S e1 e2 e3 fl => by
  have := lasts_fl (s := S) hc1 (by rw [e1, e2, e3]; exact fl) (by rw [e2]; exact h.i1) (by rw [e3]; exact h.o1)
  rw [this]
  exact ⟨rfl, rfl, rfl, rfl, rfl, rfl⟩
 have part : ∀ (S : Sh), S.no = s.no -> S.cI = s.cI -> S.cO = s.cO -> ∀ (j : Nat), j <= (frm (baseRc s.ds)).length -> Wh S.dk (1 - s.ct) ([] ++ (frm (baseRc s.ds)).take j) (frms rs) -> s.ds.sameG S.lasts := fun S e1 e2 e3 j hj hw => by
  rw [List.nil_append] at hw
  by_cases hk : j < (frm (baseRc s.ds)).length
  ·exact zo S e1 e2 e3 (old _ _ (scan_cut tb j hk).1 hw)
  ·rw [List.take_of_length_le (by omega)] at hw
   exact zn S e1 e2 e3 (new _ hw)
 obtain ⟨cu1, cu2⟩ := wh.cut hc1
 split
 ·rename_i ha
  have hw := cu1 ha
  refine zo _ rfl rfl rfl ⟨told, by rw [<- hds]; exact rp, ⟨[], ?_, scan_nil.1, scan_nil.2⟩, ?_⟩
  ·have := hw.g
   rw [show 1 - (1 - s.ct) = s.ct by omega] at this
   rw [List.append_nil]; exact this
  ·show genOf (scanL ((s.dk.cut (1 - s.ct)).1.file (1 - s.ct))) < _
   rw [hw.f, hg]; exact ho
 rename_i ha
 have hwC := cu2 (by simpa using ha)
 obtain ⟨ap1, ap2⟩ := hwC.appended hc1 (frm (baseRc s.ds))
 split
 ·rename_i hb2
  obtain ⟨j, hj, hw⟩ := ap1 hb2
  exact part _ rfl rfl rfl j hj hw
 rename_i hb2
 obtain ⟨sy1, sy2⟩ := ap2 (by simpa using hb2)
 split
 ·rename_i hb3
  obtain ⟨j, hj, hw⟩ := sy1 hb3
  exact part _ rfl rfl rfl j hj hw
 ·rename_i hb3
  have hw := sy2 (by simpa using hb3)
  rw [List.nil_append] at hw
  exact zn _ rfl rfl rfl (new _ hw)
def En.dd (e : En) : Dd := e.it.dd
def cnt (n : Int) (ob : List En) : List Dd := (ob.filter (fun x => decide (n < x.sq))).map En.dd
def thereD (d e : Ds) : List Dd := d.it.map It.dd ++ cnt e.ms.n d.ob
def PL (d e : Ds) : List Dd := thereD d e ++ thereD e d
theorem PL_comm (d e : Ds) : (PL d e).Perm (PL e d) := List.perm_append_comm
theorem cnt_app (n : Int) (a b : List En) : cnt n (a ++ b) = cnt n a ++ cnt n b := by
 unfold cnt; rw [List.filter_append, List.map_append]
theorem PL_mint {no : Nat} {cO : Int} {d e : Ds} {r : Rc} (h : r.kind = 1) : (PL (d.doR no cO r) e).Perm (r.it.dd :: PL d e) := by
 unfold Ds.doR PL thereD
 rw [if_pos h]
 have := (insI_perm r.it d.it).map It.dd
 exact ((this.append_right _).append_right _)
theorem PL_arr {no : Nat} {cO : Int} {d e : Ds} {r : Rc} (h : r.kind = 4) (hs : r.seq = d.ms.n + 1) (hm : (⟨r.seq, r.it⟩ : En) ∈ e.ob) (oc : chkE 0 e.ob = true) : (PL (d.doR no cO r) e).Perm (PL d e) := by
 have key : ∀ (l : Int) (ob : List En), chkE l ob = true -> (⟨r.seq, r.it⟩ : En) ∈ ob -> (cnt d.ms.n ob).Perm (r.it.dd :: cnt r.seq ob) := by
  intro l ob
  induction ob generalizing l with
  | nil => intro _ hm; cases hm
  | cons x t ih =>
   intro hc hm
   have hc' : (decide (l < x.sq) && isN x.sq && itB x.it && chkE x.sq t) = true := hc
   simp only [Bool.and_eq_true] at hc'
   have gt : ∀ (m : Int) (q : List En), chkE m q = true -> ∀ y ∈ q, m < y.sq := by
    intro m q
    induction q generalizing m with
    | nil => intro _ y hy; cases hy
    | cons z u ih' =>
     intro hq y hy
     have hq' : (decide (m < z.sq) && isN z.sq && itB z.it && chkE z.sq u) = true := hq
     simp only [Bool.and_eq_true, decide_eq_true_eq] at hq'
     rcases List.mem_cons.1 hy with rfl | hy
     ·exact hq'.1.1.1
     ·have := ih' z.sq hq'.2 y hy; omega
   rcases List.mem_cons.1 hm with e | hm
   ·subst e
    have h2 : ∀ y ∈ t, r.seq < y.sq := gt r.seq t hc'.2
    have e1 : cnt d.ms.n t = cnt r.seq t := by
     unfold cnt
     congr 1
     refine List.filter_congr fun y hy => ?_
     have := h2 y hy
     rw [decide_eq_true (by omega : d.ms.n < y.sq), decide_eq_true this]
    have e2 : cnt r.seq (⟨r.seq, r.it⟩ :: t) = cnt r.seq t := by
     unfold cnt
     rw [List.filter_cons_of_neg (by simp)]
    have e3 : cnt d.ms.n (⟨r.seq, r.it⟩ :: t) = r.it.dd :: cnt d.ms.n t := by
     unfold cnt
     rw [List.filter_cons_of_pos (by simp; omega)]
     rfl
    rw [e2, e3, e1]
   ·have h1 : x.sq < r.seq := gt x.sq t hc'.2 _ hm
    have p := ih x.sq hc'.2 hm
    have e2 : cnt r.seq (x :: t) = cnt r.seq t := by
     unfold cnt
     rw [List.filter_cons_of_neg (by simp; omega)]
    have e3 : cnt d.ms.n (x :: t) = cnt d.ms.n t := by
     unfold cnt
     rw [List.filter_cons_of_neg (by simp; omega)]
    rw [e2, e3]
    exact p
 have p1 := key 0 e.ob oc hm
 have p2 := (insI_perm r.it d.it).map It.dd
 unfold Ds.doR PL thereD
 rw [if_neg (by omega), if_neg (by omega), if_neg (by omega), if_pos h]
 show (((insI r.it d.it).map It.dd ++ cnt e.ms.n d.ob) ++ (e.it.map It.dd ++ cnt r.seq e.ob)).Perm ((d.it.map It.dd ++ cnt e.ms.n d.ob) ++ (e.it.map It.dd ++ cnt d.ms.n e.ob))
 refine ((p2.append_right _).append_right _).trans ?_
 refine List.Perm.trans ?_ ((p1.symm.append_left _).append_left _)
 rw [List.map_cons, List.cons_append, List.cons_append]
 refine List.Perm.trans ?_ (List.perm_middle.symm.append_left _)
 exact List.perm_middle.symm
theorem gone_iff (q : Int) (e : En) : gone q e = decide (e.sq <= q) := by
 unfold gone
 rfl
theorem PL_acked {no : Nat} {cO : Int} {d e : Ds} {r : Rc} (h : r.kind = 5) (hq : r.seq <= e.ms.n) : PL (d.doR no cO r) e = PL d e := by
 have k : cnt e.ms.n (keepE r.seq d.ob) = cnt e.ms.n d.ob := by
  unfold cnt keepE
  rw [List.filter_filter]
  congr 1
  refine List.filter_congr fun x _ => ?_
  rw [gone_iff]
  by_cases c : e.ms.n < x.sq
  ·simp; omega
  ·simp [c]
 unfold Ds.doR PL thereD
 rw [if_neg (by omega), if_neg (by omega), if_neg (by omega), if_neg (by omega), if_pos h]
 show (d.it.map It.dd ++ cnt e.ms.n (keepE r.seq d.ob)) ++ (e.it.map It.dd ++ cnt d.ms.n e.ob) = _
 rw [k]
theorem sameG_PL {d d' e : Ds} (h : d.sameG d') : PL d' e = PL d e := by
 obtain ⟨h1, h2, _, _, _, h6⟩ := h
 unfold PL thereD
 rw [h1, h2, h6]
theorem tick_dd {no : Nat} {cO : Int} {e : Ds} : ∀ (q : List It) (a : Ds), e.ms.n <= a.ms.s -> (thereD (q.foldl (Ds.tickOne no cO) a) e).Perm (thereD a e ++ q.map It.dd) /\ a.ms.s <= (q.foldl (Ds.tickOne no cO) a).ms.s /\ (q.foldl (Ds.tickOne no cO) a).ms.n = a.ms.n /\ (q.foldl (Ds.tickOne no cO) a).ms.m = a.ms.m /\ (q.foldl (Ds.tickOne no cO) a).ms.a = a.ms.a /\ (∀ x ∈ a.ob, x ∈ (q.foldl (Ds.tickOne no cO) a).ob)
 | [], a, _ => ⟨by simp, Int.le_refl _, rfl, rfl, rfl, fun _ h => h⟩
 | i :: q, a, h => by
  have one : (thereD (a.tickOne no cO i) e).Perm (thereD a e ++ [i.dd]) /\ a.ms.s <= (a.tickOne no cO i).ms.s /\ (a.tickOne no cO i).ms.n = a.ms.n /\ (a.tickOne no cO i).ms.m = a.ms.m /\ (a.tickOne no cO i).ms.a = a.ms.a /\ (∀ x ∈ a.ob, x ∈ (a.tickOne no cO i).ob) := by
   have mv : ∀ j : It, j.dd = i.dd -> (thereD { a with it := a.it ++ [j] } e).Perm (thereD a e ++ [i.dd]) := fun j hj => by
    unfold thereD
    show ((a.it ++ [j]).map It.dd ++ cnt e.ms.n a.ob).Perm _
    rw [List.map_append, List.map_cons, List.map_nil, hj, List.append_assoc, List.append_assoc]
    exact List.perm_append_comm.append_left _
   unfold Ds.tickOne
   split
   ·exact ⟨mv _ rfl, Int.le_refl _, rfl, rfl, rfl, fun _ h => h⟩
   split
   ·exact ⟨mv _ rfl, Int.le_refl _, rfl, rfl, rfl, fun _ h => h⟩
   split
   ·refine ⟨?_, by show a.ms.s <= a.ms.s + 1; omega, rfl, rfl, rfl, fun x hx => List.mem_append_left _ hx⟩
    unfold thereD
    show (a.it.map It.dd ++ cnt e.ms.n (a.ob ++ [⟨a.ms.s + 1, ⟨i.sh, i.nu, addF i.pl i.sp, i.sp⟩⟩])).Perm _
    rw [cnt_app]
    have : cnt e.ms.n [⟨a.ms.s + 1, ⟨i.sh, i.nu, addF i.pl i.sp, i.sp⟩⟩] = [i.dd] := by
     unfold cnt
     rw [List.filter_cons_of_pos (by simp; omega)]
     rfl
    rw [this, <- List.append_assoc]
   ·exact ⟨mv _ rfl, Int.le_refl _, rfl, rfl, rfl, fun _ h => h⟩
  obtain ⟨o1, o2, o3, o4, o5, o6⟩ := one
  obtain ⟨r1, r2, r3, r4, r5, r6⟩ := tick_dd (no := no) (cO := cO) (e := e) q (a.tickOne no cO i) (by omega)
  refine ⟨?_, by rw [List.foldl_cons]; omega, by rw [List.foldl_cons]; omega, by rw [List.foldl_cons]; omega, by rw [List.foldl_cons]; omega, fun x hx => r6 x (o6 x hx)⟩
  rw [List.foldl_cons]
  refine r1.trans ((o1.append_right _).trans ?_)
  rw [List.map_cons, List.append_assoc]
  exact List.Perm.refl _
theorem PL_tick {no : Nat} {cO : Int} {d e : Ds} (h : e.ms.n <= d.ms.s) : (PL (d.tick no cO) e).Perm (PL d e) := by
 obtain ⟨r1, r2, r3, _⟩ := tick_dd (no := no) (cO := cO) (e := e) d.it ⟨[], d.ob, d.ms⟩ h
 unfold PL Ds.tick
 have k : thereD e (d.it.foldl (Ds.tickOne no cO) ⟨[], d.ob, d.ms⟩) = thereD e d := by unfold thereD; rw [r3]
 rw [k]
 refine List.Perm.append_right _ (r1.trans ?_)
 unfold thereD
 exact List.perm_append_comm
theorem PL_dest {no : Nat} {cO : Int} {d e : Ds} {r : Rc} (h : r.kind = 2) (od : Ord d.it) (hx : ∃ x ∈ d.it, x.same r.it) : (PL d e).Perm (r.it.dd :: PL (d.doR no cO r) e) := by
 obtain ⟨x, hx, hs⟩ := hx
 obtain ⟨p, q, hpq⟩ := List.append_of_mem hx
 rw [hpq] at od
 obtain ⟨n1, n2, _⟩ := ord_out od
 have dl : (delTh d.it r.it.sh r.it.nu).Perm (p ++ q) := by
  have := del_old (l := d.it) (by rw [hpq]) n1 n2
  rwa [hs.1, hs.2] at this
 have ed : x.dd = r.it.dd := by unfold It.dd; rw [hs.1, hs.2]
 unfold Ds.doR PL thereD
 rw [if_neg (by omega), if_pos h]
 show ((d.it.map It.dd ++ cnt e.ms.n d.ob) ++ _).Perm (r.it.dd :: (((delTh d.it r.it.sh r.it.nu).map It.dd ++ cnt e.ms.n d.ob) ++ _))
 rw [<- List.cons_append, <- List.cons_append]
 refine List.Perm.append_right _ (List.Perm.append_right _ ?_)
 refine List.Perm.trans ?_ ((dl.map It.dd).symm.cons _)
 rw [hpq, List.map_append, List.map_append, List.map_cons, ed]
 exact List.perm_middle
theorem len7 {r : Rc} (h : r.kind = 7) : (enc r).length = 16 := by
 unfold enc body
 rw [h]
 rfl
theorem len8 {r : Rc} (h : r.kind = 8) : (enc r).length = 5 := by
 unfold enc body
 rw [h]
 rfl
theorem hd7 {r : Rc} (h : r.kind = 7) : (enc r)[0]? = some 7 := by
 unfold enc body
 rw [h]
 rfl
theorem hd8 {r : Rc} (h : r.kind = 8) : (enc r)[0]? = some 8 := by
 unfold enc body
 rw [h]
 rfl
theorem dat_enc {l : List UInt8} (h : decB l = true) : enc (dec l) = l := by
 unfold decB at h
 simp only [Bool.and_eq_true, beq_iff_eq] at h
 exact h.2
theorem dat_cross {e : En} (hm : mayB (crossRc e) = true) (wf : WfIt e.it) {k : Nat} : (16 <= k /\ datP ((crossB e).take k) = crossRc e) ∨ ((datP ((crossB e).take k)).kind ≠ 7 /\ (datP ((crossB e).take k)).kind ≠ 8) := by
 have wr : WfR (crossRc e) := ⟨wf, by simp [crossRc], by simp [crossRc]⟩
 by_cases hk : 16 <= k
 ·left
  refine ⟨hk, ?_⟩
  rw [List.take_of_length_le (by rw [crossB_len]; exact hk)]
  unfold datP crossB
  rw [if_pos (decB_enc _ hm wr), dec_enc _ hm wr]
 ·right
  unfold datP
  split
  ·rename_i hd
   have e1 := dat_enc hd
   have l1 : ((crossB e).take k).length = k := by rw [List.length_take, crossB_len]; omega
   refine ⟨fun h7 => ?_, fun h8 => ?_⟩
   ·have := len7 h7
    rw [e1, l1] at this
    omega
   ·have a := hd8 h8
    rw [e1] at a
    have b : (crossB e)[0]? = some 7 := hd7 rfl
    have lk := len8 h8
    rw [e1, l1] at lk
    rw [List.getElem?_take_of_lt (by omega), b] at a
    exact absurd (Option.some.inj a) (by decide)
  ·exact ⟨by simp, by simp⟩
theorem dat_ack {n : Int} (h0 : 0 <= n) (h1 : n <= 65535) {k : Nat} : (5 <= k /\ datP ((ackB n).take k) = ackRc n) ∨ ((datP ((ackB n).take k)).kind ≠ 7 /\ (datP ((ackB n).take k)).kind ≠ 8) := by
 have hm : mayB (ackRc n) = true := by
  show (isN n && noIt it0 && nobB (ackRc n)) = true
  have : isN n = true := by simp [isN]; omega
  rw [this]; rfl
 have wr : WfR (ackRc n) := ⟨⟨by show (0 : Nat) < _; decide, by show (0 : Nat) < _; decide⟩, by simp [ackRc], by simp [ackRc]⟩
 by_cases hk : 5 <= k
 ·left
  refine ⟨hk, ?_⟩
  rw [List.take_of_length_le (by rw [ackB_len]; exact hk)]
  unfold datP ackB
  rw [if_pos (decB_enc _ hm wr), dec_enc _ hm wr]
 ·right
  unfold datP
  split
  ·rename_i hd
   have e1 := dat_enc hd
   have l1 : ((ackB n).take k).length = k := by rw [List.length_take, ackB_len]; omega
   refine ⟨fun h7 => ?_, fun h8 => ?_⟩
   ·have := len7 h7
    rw [e1, l1] at this
    omega
   ·have := len8 h8
    rw [e1, l1] at this
    omega
  ·exact ⟨by simp, by simp⟩
def GoodT (d e : Ds) (t : List UInt8) : Prop :=
 (∃ en k, t = (crossB en).take k /\ mayB (crossRc en) = true /\ WfIt en.it /\ en.sq <= d.ms.s /\ (e.ms.n < en.sq -> en ∈ d.ob)) ∨ (∃ n k, t = (ackB n).take k /\ 0 <= n /\ n <= 65535 /\ n <= d.ms.n)
theorem GoodT.cut {d e : Ds} {t : List UInt8} (h : GoodT d e t) (n : Int) : GoodT d e (cutN t n) := by
 unfold cutN
 rcases h with ⟨en, k, rfl, h⟩ | ⟨m, k, rfl, h⟩
 ·exact .inl ⟨en, _, by rw [List.take_take], h⟩
 ·exact .inr ⟨m, _, by rw [List.take_take], h⟩
theorem GoodT.mono {d e d' e' : Ds} {t : List UInt8} (h : GoodT d e t) (hs : d.ms.s <= d'.ms.s) (hn : d.ms.n <= d'.ms.n) (he : e.ms.n <= e'.ms.n) (hk : ∀ x ∈ d.ob, e'.ms.n < x.sq -> x ∈ d'.ob) : GoodT d' e' t := by
 rcases h with ⟨en, k, e1, h1, h2, h3, h4⟩ | ⟨m, k, e1, h1, h2, h3⟩
 ·exact .inl ⟨en, k, e1, h1, h2, by omega, fun h => hk en (h4 (by omega)) h⟩
 ·exact .inr ⟨m, k, e1, h1, h2, by omega⟩
theorem GoodT.cross {d e : Ds} {t : List UInt8} (h : GoodT d e t) (h7 : (datP t).kind = 7) : (datP t).seq <= d.ms.s /\ (e.ms.n < (datP t).seq -> (⟨(datP t).seq, (datP t).it⟩ : En) ∈ d.ob) := by
 rcases h with ⟨en, k, rfl, h1, h2, h3, h4⟩ | ⟨m, k, rfl, h1, h2, h3⟩
 ·rcases dat_cross h1 h2 (k := k) with ⟨_, e1⟩ | ⟨n7, _⟩
  ·rw [e1]; exact ⟨h3, h4⟩
  ·exact absurd h7 n7
 ·rcases dat_ack h1 h2 (k := k) with ⟨_, e1⟩ | ⟨n7, _⟩
  ·rw [e1] at h7; exact absurd h7 (by show ¬ (8 : Int) = 7; decide)
  ·exact absurd h7 n7
theorem GoodT.ack {d e : Ds} {t : List UInt8} (h : GoodT d e t) (h8 : (datP t).kind = 8) : (datP t).seq <= d.ms.n := by
 rcases h with ⟨en, k, rfl, h1, h2, h3, h4⟩ | ⟨m, k, rfl, h1, h2, h3⟩
 ·rcases dat_cross h1 h2 (k := k) with ⟨_, e1⟩ | ⟨_, n8⟩
  ·rw [e1] at h8; exact absurd h8 (by show ¬ (7 : Int) = 8; decide)
  ·exact absurd h8 n8
 ·rcases dat_ack h1 h2 (k := k) with ⟨_, e1⟩ | ⟨_, n8⟩
  ·rw [e1]; exact h3
  ·exact absurd h8 n8
structure WH (i : Int) (d e : Ds) (fd fe : List (List UInt8)) : Prop where
 nd : (PL d e).Nodup
 id : ∀ x ∈ PL d e, (x.sh = i /\ x.nu <= d.ms.m) ∨ (x.sh = 1 - i /\ x.nu <= e.ms.m)
 a : d.ms.a <= e.ms.n
 n : e.ms.n <= d.ms.s
 a' : e.ms.a <= d.ms.n
 n' : d.ms.n <= e.ms.s
 te : ∀ t ∈ fe, GoodT d e t
 td : ∀ t ∈ fd, GoodT e d t
section
variable {i : Int} {d e d' : Ds} {fd fe : List (List UInt8)}
theorem WH.symm (h : WH i d e fd fe) : WH (1 - i) e d fe fd := by
 refine ⟨(PL_comm d e).nodup_iff.1 h.nd, fun x hx => ?_, h.a', h.n', h.a, h.n, h.td, h.te⟩
 rcases h.id x ((PL_comm e d).mem_iff.1 hx) with e | e
 ·exact .inr ⟨by omega, e.2⟩
 ·exact .inl e
structure Qt (d e d' : Ds) : Prop where
 p : (PL d' e).Perm (PL d e)
 m : d.ms.m <= d'.ms.m
 s : d.ms.s <= d'.ms.s
 a : d.ms.a <= d'.ms.a
 n : d.ms.n <= d'.ms.n
theorem Qt.refl (d e : Ds) : Qt d e d := ⟨.refl _, Int.le_refl _, Int.le_refl _, Int.le_refl _, Int.le_refl _⟩
theorem WH.step (h : WH i d e fd fe) (nd : (PL d' e).Nodup) (id : ∀ x ∈ PL d' e, x ∈ PL d e ∨ (x.sh = i /\ x.nu <= d'.ms.m)) (hm : d.ms.m <= d'.ms.m) (hs : d.ms.s <= d'.ms.s) (hn : d.ms.n <= d'.ms.n) (ha : d'.ms.a <= e.ms.n) (hn' : d'.ms.n <= e.ms.s) (hk : ∀ x ∈ d.ob, e.ms.n < x.sq -> x ∈ d'.ob) : WH i d' e fd fe := by
 refine ⟨nd, fun x hx => ?_, ha, ?_, ?_, hn', fun t ht => (h.te t ht).mono hs hn (Int.le_refl _) hk, fun t ht => (h.td t ht).mono (Int.le_refl _) (Int.le_refl _) hn (fun _ hx _ => hx)⟩
 ·rcases id x hx with hx | hx
  ·rcases h.id x hx with e | e
   ·exact .inl ⟨e.1, by omega⟩
   ·exact .inr e
  ·exact .inl hx
 ·have := h.n; omega
 ·have := h.a'; omega
theorem WH.quiet (h : WH i d e fd fe) (q : Qt d e d') (ha : d'.ms.a <= e.ms.n) (hn' : d'.ms.n <= e.ms.s) (hk : ∀ x ∈ d.ob, e.ms.n < x.sq -> x ∈ d'.ob) : WH i d' e fd fe :=
 h.step (q.p.nodup_iff.2 h.nd) (fun _ hx => .inl (q.p.mem_iff.1 hx)) q.m q.s q.n ha hn' hk
theorem WH.same (h : WH i d e fd fe) (g : d.sameG d') : WH i d' e fd fe /\ Qt d e d' := by
 have q : Qt d e d' := ⟨by rw [sameG_PL g], by have := g.2.2.1; omega, by have := g.2.2.2.1; omega, by have := g.2.2.2.2.1; omega, by have := g.2.2.2.2.2; omega⟩
 exact ⟨h.quiet q (by have := g.2.2.2.2.1; have := h.a; omega) (by have := g.2.2.2.2.2; have := h.n'; omega) (fun x hx _ => by rw [g.2.1]; exact hx), q⟩
theorem WH.tick (h : WH i d e fd fe) (no : Nat) (cO : Int) : WH i (d.doR no cO tickRec) e fd fe /\ Qt d e (d.doR no cO tickRec) := by
 obtain ⟨_, r2, r3, r4, r5, r6⟩ := tick_dd (no := no) (cO := cO) (e := e) d.it ⟨[], d.ob, d.ms⟩ h.n
 have q : Qt d e (d.tick no cO) := ⟨PL_tick h.n, Int.le_of_eq r4.symm, r2, Int.le_of_eq r5.symm, Int.le_of_eq r3.symm⟩
 exact ⟨h.quiet q (by have := h.a; show (d.tick no cO).ms.a <= _; unfold Ds.tick; rw [r5]; exact this) (by have := h.n'; show (d.tick no cO).ms.n <= _; unfold Ds.tick; rw [r3]; exact this) (fun x hx _ => r6 x hx), q⟩
theorem WH.acked (h : WH i d e fd fe) (no : Nat) (cO q : Int) (h1 : d.ms.a < q) (hq : q <= e.ms.n) : WH i (d.doR no cO (ackedRec q)) e fd fe /\ Qt d e (d.doR no cO (ackedRec q)) := by
 have ed : d.doR no cO (ackedRec q) = ⟨d.it, keepE q d.ob, { d.ms with a := q }⟩ := rfl
 have qt : Qt d e (d.doR no cO (ackedRec q)) := ⟨by rw [PL_acked (r := ackedRec q) rfl hq], Int.le_refl _, Int.le_refl _, by show d.ms.a <= q; omega, Int.le_refl _⟩
 refine ⟨h.quiet qt hq h.n' (fun x hx hlt => ?_), qt⟩
 show x ∈ keepE q d.ob
 unfold keepE
 rw [List.mem_filter, gone_iff]
 exact ⟨hx, by simp; omega⟩
theorem WH.arr (h : WH i d e fd fe) (oc : chkE 0 e.ob = true) (no : Nat) (cO : Int) (it : It) (hm : (⟨d.ms.n + 1, it⟩ : En) ∈ e.ob) (hs : d.ms.n + 1 <= e.ms.s) : WH i (d.doR no cO (arrRec (d.ms.n + 1) it)) e fd fe /\ Qt d e (d.doR no cO (arrRec (d.ms.n + 1) it)) := by
 have qt : Qt d e (d.doR no cO (arrRec (d.ms.n + 1) it)) := ⟨PL_arr (r := arrRec (d.ms.n + 1) it) rfl rfl hm oc, Int.le_refl _, Int.le_refl _, Int.le_refl _, by show d.ms.n <= d.ms.n + 1; omega⟩
 exact ⟨h.quiet qt h.a hs (fun x hx _ => hx), qt⟩
theorem WH.mint (h : WH i d e fd fe) (hi : is01 i) (no : Nat) (cO : Int) (pl sp : Nat) (hno : (no : Int) = i) : WH i (d.doR no cO (mintRc no d.ms.m pl sp)) e fd fe /\ (PL (d.doR no cO (mintRc no d.ms.m pl sp)) e).Perm (⟨i, d.ms.m + 1⟩ :: PL d e) /\ (⟨i, d.ms.m + 1⟩ : Dd) ∉ PL d e := by
 have p : (PL (d.doR no cO (mintRc no d.ms.m pl sp)) e).Perm (⟨i, d.ms.m + 1⟩ :: PL d e) := by
  have := PL_mint (no := no) (cO := cO) (d := d) (e := e) (r := mintRc no d.ms.m pl sp) rfl
  have ee : (mintRc no d.ms.m pl sp).it.dd = ⟨i, d.ms.m + 1⟩ := by rw [<- hno]; rfl
  rwa [ee] at this
 have nx : (⟨i, d.ms.m + 1⟩ : Dd) ∉ PL d e := fun hx => by
  rcases h.id _ hx with ⟨_, e2⟩ | ⟨e1, _⟩
  ·have : d.ms.m + 1 <= d.ms.m := e2
   omega
  ·have : i = 1 - i := e1
   rcases hi with rfl | rfl <;> omega
 refine ⟨h.step (p.nodup_iff.2 (List.nodup_cons.2 ⟨nx, h.nd⟩)) (fun x hx => ?_) ?_ (Int.le_refl _) (Int.le_refl _) h.a h.n' (fun _ hx _ => hx), p, nx⟩
 ·rcases List.mem_cons.1 (p.mem_iff.1 hx) with rfl | hx
  ·exact .inr ⟨rfl, Int.le_refl _⟩
  ·exact .inl hx
 ·show d.ms.m <= d.ms.m + 1
  omega
theorem WH.dest (h : WH i d e fd fe) (od : Ord d.it) (no : Nat) (cO x y : Int) (hx : ∃ z ∈ d.it, z.sh = x /\ z.nu = y) : WH i (d.doR no cO (destRec x y)) e fd fe /\ (PL d e).Perm (⟨x, y⟩ :: PL (d.doR no cO (destRec x y)) e) /\ (⟨x, y⟩ : Dd) ∉ PL (d.doR no cO (destRec x y)) e := by
 have p : (PL d e).Perm (⟨x, y⟩ :: PL (d.doR no cO (destRec x y)) e) := PL_dest (r := destRec x y) rfl od (by obtain ⟨z, hz, h1, h2⟩ := hx; exact ⟨z, hz, h1, h2⟩)
 have nd := List.nodup_cons.1 (p.nodup_iff.1 h.nd)
 exact ⟨h.step nd.2 (fun x hx => .inl (p.mem_iff.2 (List.mem_cons_of_mem _ hx))) (Int.le_refl _) (Int.le_refl _) (Int.le_refl _) h.a h.n' (fun _ hx _ => hx), p, nd.1⟩
end
def Pr.ls (p : Pr) (i : Int) : Ds := (p.sh i).lasts
def WP (p : Pr) (i : Int) : Prop := WH i (p.ls i) (p.ls (1 - i)) (p.fl i) (p.fl (1 - i))
def Pr.pl (p : Pr) : List Dd := PL (p.ls 0) (p.ls 1)
def Ds.le (d e : Ds) : Prop := d.ms.m <= e.ms.m /\ d.ms.s <= e.ms.s /\ d.ms.a <= e.ms.a /\ d.ms.n <= e.ms.n
theorem Ds.le_refl (d : Ds) : d.le d := ⟨Int.le_refl _, Int.le_refl _, Int.le_refl _, Int.le_refl _⟩
theorem Ds.le_trans {a b c : Ds} (h : a.le b) (h' : b.le c) : a.le c := ⟨Int.le_trans h.1 h'.1, Int.le_trans h.2.1 h'.2.1, Int.le_trans h.2.2.1 h'.2.2.1, Int.le_trans h.2.2.2 h'.2.2.2⟩
structure QP (p q : Pr) : Prop where
 w : WP q 0
 pm : ∀ x, x ∈ q.pl ↔ x ∈ p.pl
 l0 : (p.ls 0).le (q.ls 0)
 l1 : (p.ls 1).le (q.ls 1)
section
variable {p q r : Pr} {i : Int}
theorem WP.symm (h : WP p i) : WP p (1 - i) := by
 have e : 1 - (1 - i) = i := by omega
 unfold WP at *
 rw [e]
 exact WH.symm h
theorem WP.at (h : WP p 0) (hi : is01 i) : WP p i := by
 rcases hi with rfl | rfl
 ·exact h
 ·exact h.symm
theorem WP.zero (hi : is01 i) (h : WP p i) : WP p 0 := by
 rcases hi with rfl | rfl
 ·exact h
 ·exact h.symm
theorem QP.refl (h : WP p 0) : QP p p := ⟨h, fun _ => Iff.rfl, Ds.le_refl _, Ds.le_refl _⟩
theorem QP.trans (h : QP p q) (h' : QP q r) : QP p r := ⟨h'.w, fun x => (h'.pm x).trans (h.pm x), Ds.le_trans h.l0 h'.l0, Ds.le_trans h.l1 h'.l1⟩
theorem WP.set {s : Sh} (hi : is01 i) (h : WH i s.lasts (p.ls (1 - i)) (p.fl i) (p.fl (1 - i))) : WP (p.setSh i s) 0 := by
 refine WP.zero hi ?_
 rcases hi with rfl | rfl
 ·exact h
 ·exact h
theorem pl_set {s : Sh} (hi : is01 i) : ∀ x, x ∈ (p.setSh i s).pl ↔ x ∈ PL s.lasts (p.ls (1 - i)) := fun x => by
 rcases hi with rfl | rfl
 ·exact Iff.rfl
 ·exact (PL_comm _ _).mem_iff
theorem pl_at (hi : is01 i) : ∀ x, x ∈ p.pl ↔ x ∈ PL (p.ls i) (p.ls (1 - i)) := fun x => by
 rcases hi with rfl | rfl
 ·exact Iff.rfl
 ·exact (PL_comm _ _).mem_iff
theorem le_set {s : Sh} (hi : is01 i) (h : (p.ls i).le s.lasts) : (p.ls 0).le ((p.setSh i s).ls 0) /\ (p.ls 1).le ((p.setSh i s).ls 1) := by
 rcases hi with rfl | rfl
 ·exact ⟨h, Ds.le_refl _⟩
 ·exact ⟨Ds.le_refl _, h⟩
theorem QP.set {s : Sh} (hi : is01 i) (h : WH i s.lasts (p.ls (1 - i)) (p.fl i) (p.fl (1 - i))) (qt : Qt (p.ls i) (p.ls (1 - i)) s.lasts) : QP p (p.setSh i s) := by
 obtain ⟨a, b⟩ := le_set (p := p) (s := s) hi ⟨qt.m, qt.s, qt.a, qt.n⟩
 exact ⟨WP.set hi h, fun x => (pl_set hi x).trans (qt.p.mem_iff.trans (pl_at hi x).symm), a, b⟩
theorem QP.flown (h : WP p 0) (e0 : q.s0 = p.s0) (e1 : q.s1 = p.s1) (t1 : ∀ t ∈ q.f1, t ∈ p.f1 ∨ GoodT (p.ls 0) (p.ls 1) t) (t0 : ∀ t ∈ q.f0, t ∈ p.f0 ∨ GoodT (p.ls 1) (p.ls 0) t) : QP p q := by
 have l0 : q.ls 0 = p.ls 0 := by show q.s0.lasts = p.s0.lasts; rw [e0]
 have l1 : q.ls 1 = p.ls 1 := by show q.s1.lasts = p.s1.lasts; rw [e1]
 have hh : WH 0 (p.ls 0) (p.ls 1) p.f0 p.f1 := h
 refine ⟨?_, fun x => by unfold Pr.pl; rw [l0, l1], by rw [l0]; exact Ds.le_refl _, by rw [l1]; exact Ds.le_refl _⟩
 show WH 0 (q.ls 0) (q.ls 1) q.f0 q.f1
 rw [l0, l1]
 refine ⟨hh.nd, hh.id, hh.a, hh.n, hh.a', hh.n', fun t ht => ?_, fun t ht => ?_⟩
 ·rcases t1 t ht with e | e
  ·exact hh.te t e
  ·exact e
 ·rcases t0 t ht with e | e
  ·exact hh.td t e
  ·exact e
theorem ls_up (gd : PGd p) (hi : is01 i) (hu : (p.sh i).up = true) : p.ls i = (p.sh i).ds := by
 obtain ⟨⟨r, g⟩, _⟩ := gd.at hi
 exact lasts_up g hu
theorem jrn_quiet {rc : Rc} (gd : PGd p) (h : WP p i) (hi : is01 i) (hu : (p.sh i).up = true) (tp : Told rc) (ok : DOk (p.sh i).no (p.sh i).cI (p.sh i).ds rc)
  (k : WH i ((p.ls i).doR (p.sh i).no (p.sh i).cO rc) (p.ls (1 - i)) (p.fl i) (p.fl (1 - i)) /\ Qt (p.ls i) (p.ls (1 - i)) ((p.ls i).doR (p.sh i).no (p.sh i).cO rc)) :
  WH i ((p.sh i).jrn rc).2.lasts (p.ls (1 - i)) (p.fl i) (p.fl (1 - i)) /\ Qt (p.ls i) (p.ls (1 - i)) ((p.sh i).jrn rc).2.lasts := by
 obtain ⟨⟨r, g⟩, _⟩ := gd.at hi
 have lu : p.ls i = (p.sh i).ds := lasts_up g hu
 have old : WH i (p.ls i) (p.ls (1 - i)) (p.fl i) (p.fl (1 - i)) /\ Qt (p.ls i) (p.ls (1 - i)) (p.ls i) := ⟨h, Qt.refl _ _⟩
 rcases jrn_step g hu tp ok with ⟨_, e⟩ | ⟨_, _, e | e⟩ | ⟨_, u, e⟩
 ·rw [e]; exact old
 ·rw [e, <- lu]; exact old
 ·rw [e, <- lu]; exact k
 ·rw [lasts_up (jrn_good g hu tp ok).2 u, e, <- lu]; exact k
end
section
variable {p : Pr}
theorem onUp_q (h : WP p 0) (i : Int) (f : Sh -> Int × Sh) (hf : p.upE i = 0 -> QP p (p.setSh i (f (p.sh i)).2)) : QP p (p.onUp i f).2 := by
 unfold Pr.onUp
 split
 ·rename_i hu; exact hf hu
 ·exact QP.refl h
theorem tick_q (gd : PGd p) (h : WP p 0) (i : Int) : QP p (p.tick i).2 := onUp_q h i _ fun hu => by
 obtain ⟨hi, up⟩ := upE_at hu
 obtain ⟨⟨r, g⟩, _⟩ := gd.at hi
 have k := jrn_quiet gd (h.at hi) hi up told_tick ⟨.inr (.inr (.inl rfl)), fun e => absurd e (by decide), fun e => absurd e (by decide), by unfold i64B tickRec it0; simp, fun e => absurd e (by decide), fun e => absurd e (by decide)⟩ ((h.at hi).tick (p.sh i).no (p.sh i).cO)
 exact QP.set hi k.1 k.2
theorem snap_q (gd : PGd p) (h : WP p 0) (i : Int) : QP p (p.snap i).2 := onUp_q h i _ fun hu => by
 obtain ⟨hi, up⟩ := upE_at hu
 obtain ⟨⟨r, g⟩, _⟩ := gd.at hi
 have k := (h.at hi).same (by rw [ls_up gd hi up]; exact snap_step g up)
 exact QP.set hi k.1 k.2
theorem crash_q (gd : PGd p) (h : WP p 0) (i n : Int) : QP p (p.crash i n).2 := onUp_q h i _ fun hu => by
 obtain ⟨hi, up⟩ := upE_at hu
 obtain ⟨⟨r, g⟩, _⟩ := gd.at hi
 have e : ((p.sh i).down.on ((p.sh i).dk.crash n)).lasts = p.ls i := lasts_crash g n
 exact QP.set hi (by rw [e]; exact h.at hi) (by rw [e]; exact Qt.refl _ _)
theorem brk_q (gd : PGd p) (h : WP p 0) (i n m : Int) : QP p (p.brk i n m).2 := by
 unfold Pr.brk
 split
 ·rename_i c
  obtain ⟨⟨r, g⟩, _⟩ := gd.at c.1
  have e : ((p.sh i).on { (p.sh i).dk with un := n, kp := m }).lasts = p.ls i := lasts_break g n m
  exact QP.set c.1 (by rw [e]; exact h.at c.1) (by rw [e]; exact Qt.refl _ _)
 ·exact QP.refl h
theorem restart_q (gd : PGd p) (h : WP p 0) (i : Int) : QP p (p.restart i).2 := by
 unfold Pr.restart
 split
 ·rename_i c
  obtain ⟨⟨r, g⟩, _⟩ := gd.at c.1
  have e : (p.sh i).restart.lasts = p.ls i := lasts_restart g
  exact QP.set c.1 (by rw [e]; exact h.at c.1) (by rw [e]; exact Qt.refl _ _)
 ·exact QP.refl h
theorem dropK_mem {fs : List (List UInt8)} {k : Int} {t : List UInt8} (h : t ∈ dropK fs k) : t ∈ fs := by
 unfold dropK at h
 split at h
 ·exact List.mem_of_mem_eraseIdx h
 ·exact h
theorem putT_mem {fs : List (List UInt8)} {u t : List UInt8} (h : t ∈ putT fs u) : t ∈ fs ∨ t = u := by
 unfold putT at h
 split at h
 ·simpa using h
 ·exact .inl h
theorem puts_mem : ∀ {l fs : List (List UInt8)} {t : List UInt8}, t ∈ l.foldl putT fs -> t ∈ fs ∨ t ∈ l
 | [], _, _, h => .inl h
 | x :: l, fs, t, h => by
  rcases puts_mem (l := l) (fs := putT fs x) h with h | h
  ·rcases putT_mem h with h | rfl
   ·exact .inl h
   ·exact .inr (.head _)
  ·exact .inr (.tail _ h)
theorem atK_mem {fs : List (List UInt8)} {k : Int} (h : isK fs k) : atK fs k ∈ fs := by
 unfold atK
 rw [if_pos h]
 have hl : k.toNat < fs.length := by have := h.1; have := h.2; omega
 rw [List.getD_eq_getElem?_getD, List.getElem?_eq_getElem hl]
 exact List.getElem_mem hl
theorem doubleK_mem {fs : List (List UInt8)} {k : Int} {t : List UInt8} (h : t ∈ doubleK fs k) : t ∈ fs := by
 unfold doubleK at h
 split at h
 ·rename_i c
  rcases putT_mem h with h | rfl
  ·exact h
  ·exact atK_mem c
 ·exact h
theorem spoilK_mem {fs : List (List UInt8)} {k n : Int} {t : List UInt8} (h : t ∈ spoilK fs k n) : t ∈ fs ∨ ∃ u ∈ fs, t = cutN u n := by
 unfold spoilK at h
 split at h
 ·rename_i c
  rcases List.mem_or_eq_of_mem_set h with h | rfl
  ·exact .inl h
  ·exact .inr ⟨_, atK_mem c, rfl⟩
 ·exact .inl h
theorem on01_q (h : WP p 0) (i : Int) (f : List (List UInt8) -> List (List UInt8)) (hf : ∀ fs t, t ∈ f fs -> t ∈ fs ∨ ∃ u ∈ fs, ∃ n, t = cutN u n) : QP p ⟨p.s0, p.s1, (on01 p.f0 p.f1 f i).1, (on01 p.f0 p.f1 f i).2⟩ := by
 have hh : WH 0 (p.ls 0) (p.ls 1) p.f0 p.f1 := h
 refine QP.flown h rfl rfl (fun t ht => ?_) (fun t ht => ?_)
 ·unfold on01 set01 pick01 at ht
  by_cases hi : is01 i
  ·rw [if_pos hi] at ht
   rcases hi with rfl | rfl
   ·exact .inl ht
   ·rcases hf _ t ht with e | ⟨u, hu, n, rfl⟩
    ·exact .inl e
    ·exact .inr ((hh.te u hu).cut n)
  ·rw [if_neg hi] at ht
   exact .inl ht
 ·unfold on01 set01 pick01 at ht
  by_cases hi : is01 i
  ·rw [if_pos hi] at ht
   rcases hi with rfl | rfl
   ·rcases hf _ t ht with e | ⟨u, hu, n, rfl⟩
    ·exact .inl e
    ·exact .inr ((hh.td u hu).cut n)
   ·exact .inl ht
  ·rw [if_neg hi] at ht
   exact .inl ht
theorem drop_q (h : WP p 0) (i k : Int) : QP p (p.drop i k).2 := on01_q h i _ fun _ _ ht => .inl (dropK_mem ht)
theorem double_q (h : WP p 0) (i k : Int) : QP p (p.double i k).2 := on01_q h i _ fun _ _ ht => .inl (doubleK_mem ht)
theorem spoil_q (h : WP p 0) (i k n : Int) : QP p (p.spoil i k n).2 := on01_q h i _ fun _ _ ht => by
 rcases spoilK_mem ht with e | ⟨u, hu, e⟩
 ·exact .inl e
 ·exact .inr ⟨u, hu, n, e⟩
theorem put_q (h : WP p 0) {i : Int} (hi : is01 i) (l : List (List UInt8)) (hl : ∀ t ∈ l, GoodT (p.ls i) (p.ls (1 - i)) t) : QP p ⟨p.s0, p.s1, (set01 p.f0 p.f1 (l.foldl putT (pick01 p.f0 p.f1 (1 - i))) (1 - i)).1, (set01 p.f0 p.f1 (l.foldl putT (pick01 p.f0 p.f1 (1 - i))) (1 - i)).2⟩ := by
 refine QP.flown h rfl rfl (fun t ht => ?_) (fun t ht => ?_)
 ·rcases hi with rfl | rfl
  ·rcases puts_mem (show t ∈ l.foldl putT p.f1 from ht) with e | e
   ·exact .inl e
   ·exact .inr (hl t e)
  ·exact .inl ht
 ·rcases hi with rfl | rfl
  ·exact .inl ht
  ·rcases puts_mem (show t ∈ l.foldl putT p.f0 from ht) with e | e
   ·exact .inl e
   ·exact .inr (hl t e)
theorem send_q (gd : PGd p) (h : WP p 0) (i : Int) : QP p (p.send i).2 := by
 unfold Pr.send
 split
 ·rename_i hu
  obtain ⟨hi, up⟩ := upE_at hu
  obtain ⟨⟨r, g⟩, _⟩ := gd.at hi
  obtain ⟨_, _, _, _, _, has, _⟩ := g.has up
  have lu := ls_up gd hi up
  refine put_q h hi ((p.sh i).ob.map crossB) (fun t ht => ?_)
  obtain ⟨en, hen, rfl⟩ := List.mem_map.1 ht
  have c := cross_ok has en hen
  exact .inl ⟨en, 16, by rw [List.take_of_length_le (by rw [crossB_len]; omega)], c.1, c.2, by rw [lu]; exact (has.en en hen).2.2, fun _ => by rw [lu]; exact hen⟩
 ·exact QP.refl h
end
section
variable {p : Pr} {i : Int}
theorem ack_good {s : Sh} {r : Rs} (g : Good s r) (hu : s.up = true) (e : Ds) : GoodT s.lasts e (ackB s.ms.n) := by
 obtain ⟨_, _, _, _, _, has, _⟩ := g.has hu
 have lu := lasts_up g hu
 exact .inr ⟨s.ms.n, 5, by rw [List.take_of_length_le (by rw [ackB_len]; omega)], has.mo.n0, has.mo.n1, by rw [lu]; exact Int.le_refl _⟩
theorem hear_q (gd : PGd p) (h : WP p 0) (hi : is01 i) (hu : (p.sh i).up = true) (t : List UInt8) (ht : GoodT (p.ls (1 - i)) (p.ls i) t) :
  QP p (p.setSh i ((p.sh i).hear t).2) /\ (((p.sh i).hear t).1.2 = [] ∨ GoodT ((p.sh i).hear t).2.lasts (p.ls (1 - i)) ((p.sh i).hear t).1.2) := by
 obtain ⟨⟨r, g⟩, _⟩ := gd.at hi
 obtain ⟨_, _, _, _, _, has, _⟩ := g.has hu
 have lu := ls_up gd hi hu
 have ho : is01 (1 - i) := is01_other hi
 have same : QP p (p.setSh i (p.sh i)) := by rw [set_pick hi]; exact QP.refl h
 obtain ⟨⟨r', g'⟩, _⟩ := gd.at ho
 have oc : chkE 0 (p.ls (1 - i)).ob = true := (lasts_has g').oc
 unfold Sh.hear
 split
 ·rename_i k7
  obtain ⟨_, q0, q1, hit⟩ := dat_7 k7
  obtain ⟨c1, c2⟩ := ht.cross k7
  unfold Sh.hearCross
  split
  ·exact ⟨same, .inr (ack_good g hu _)⟩
  rename_i n1
  split
  ·exact ⟨same, .inl rfl⟩
  rename_i n2
  have eq : (datP t).seq = (p.sh i).ms.n + 1 := by omega
  have ma : (p.sh i).mayArr (datP t).it = true := by
   cases hm : (p.sh i).mayArr (datP t).it
   ·exact absurd (.inr hm) n2
   ·rfl
  have en : (p.ls i).ms.n = (p.sh i).ms.n := by rw [lu]; rfl
  have mem : (⟨(p.ls i).ms.n + 1, (datP t).it⟩ : En) ∈ (p.ls (1 - i)).ob := by
   rw [en, <- eq]
   exact c2 (by omega)
  have wk := (h.at hi).arr oc (p.sh i).no (p.sh i).cO (datP t).it mem (by omega)
  have e : (⟨4, (datP t).seq, (datP t).it, mk0, [], []⟩ : Rc) = arrRec ((p.ls i).ms.n + 1) (datP t).it := by rw [eq, en]; rfl
  have ag := arr_good g hu (i := (datP t).it) (by omega) hit (dat_wf t) (mayArr_ds ma)
  have md := mayArr_ds ma
  have tp : Told (arrRec ((p.ls i).ms.n + 1) (datP t).it) := by rw [en]; exact told_arr (by omega) (by omega) hit (dat_wf t)
  have ok : DOk (p.sh i).no (p.sh i).cI (p.sh i).ds (arrRec ((p.ls i).ms.n + 1) (datP t).it) := by
   refine ⟨.inr (.inr (.inr (.inl rfl))), fun e => absurd e (by show ¬ (4 : Int) = 1; decide), fun e => absurd e (by show ¬ (4 : Int) = 2; decide), id_i64 (it_parts hit).1, fun _ => ⟨by rw [en]; rfl, ?_, md.2.2.2, hit, dat_wf t, md.2.2.1, fun hs => ?_⟩, fun e => absurd e (by show ¬ (4 : Int) = 5; decide)⟩
   ·show (p.sh i).ms.n < 65535
    omega
   ·have := md.2.1
    exact Int.not_lt.1 (fun hlt => this ⟨hs, hlt⟩)
  have k := jrn_quiet gd (h.at hi) hi hu tp ok wk
  rw [e]
  have Q := QP.set hi k.1 k.2
  split
  ·rename_i z
   refine ⟨Q, .inr ?_⟩
   have u := jrn_step g hu tp ok
   have uu : ((p.sh i).jrn (arrRec ((p.ls i).ms.n + 1) (datP t).it)).2.up = true := by
    rcases u with ⟨e5, _⟩ | ⟨e3, _⟩ | ⟨_, u, _⟩
    ·rw [e5] at z; exact absurd z (by decide)
    ·rw [e3] at z; exact absurd z (by decide)
    ·exact u
   exact ack_good (jrn_good g hu tp ok).2 uu _
  ·exact ⟨Q, .inl rfl⟩
 split
 ·rename_i k8
  have c := ht.ack k8
  unfold Sh.hearAck
  split
  ·exact ⟨same, .inl rfl⟩
  ·rename_i n1
   have ea : (p.ls i).ms.a = (p.sh i).ms.a := by rw [lu]; rfl
   have wk := (h.at hi).acked (p.sh i).no (p.sh i).cO (datP t).seq (by omega) c
   obtain ⟨_, z0, z1⟩ := dat_8 k8
   have k := jrn_quiet gd (h.at hi) hi hu (told_acked z0 z1) ⟨.inr (.inr (.inr (.inr rfl))), fun e => absurd e (by show ¬ (5 : Int) = 1; decide), fun e => absurd e (by show ¬ (5 : Int) = 2; decide), by unfold i64B ackedRec it0; simp, fun e => absurd e (by show ¬ (5 : Int) = 4; decide), fun _ => ⟨by show (p.sh i).ms.a < (datP t).seq; omega, by show (datP t).seq <= (p.sh i).ms.s; omega⟩⟩ wk
   exact ⟨QP.set hi k.1 k.2, .inl rfl⟩
 ·exact ⟨same, .inl rfl⟩
theorem deliver_q (gd : PGd p) (h : WP p 0) (i k : Int) : QP p (p.deliver i k).2 := by
 unfold Pr.deliver
 split
 ·exact QP.refl h
 rename_i hn
 have hk : is01 i /\ isK (p.fl i) k := by
  have hn' : unE p.f0 p.f1 i k = 0 := by simpa using hn
  unfold unE at hn'
  by_cases hi : is01 i
  ·rw [if_pos hi] at hn'
   refine ⟨hi, ?_⟩
   unfold eK at hn'
   by_cases hk : isK (pick01 p.f0 p.f1 i) k
   ·exact hk
   ·rw [if_neg hk] at hn'; exact absurd hn' (by decide)
  ·rw [if_neg hi] at hn'; exact absurd hn' (by decide)
 have hi := hk.1
 have q1 := drop_q h i k
 split
 ·exact q1
 rename_i up
 have up' : (p.sh i).up = true := by simpa using up
 have es : (p.drop i k).2.sh i = p.sh i := by rcases hi with rfl | rfl <;> rfl
 have el : (p.drop i k).2.ls i = p.ls i := by rcases hi with rfl | rfl <;> rfl
 have el' : (p.drop i k).2.ls (1 - i) = p.ls (1 - i) := by rcases hi with rfl | rfl <;> rfl
 have gt : GoodT (p.ls (1 - i)) (p.ls i) (atK (p.fl i) k) := (h.at hi).td _ (atK_mem hk.2)
 have hq := hear_q (p := (p.drop i k).2) (drop_keep gd i k).gd q1.w hi (by rw [es]; exact up') (atK (p.fl i) k) (by rw [el, el']; exact gt)
 rw [es, el'] at hq
 refine q1.trans (hq.1.trans ?_)
 unfold Pr.reply
 split
 ·exact QP.refl hq.1.w
 ·rename_i ne
  have gt2 : GoodT ((p.sh i).hear (atK (p.fl i) k)).2.lasts (p.ls (1 - i)) ((p.sh i).hear (atK (p.fl i) k)).1.2 := by
   rcases hq.2 with e | e
   ·exact absurd e ne
   ·exact e
  refine put_q hq.1.w hi [((p.sh i).hear (atK (p.fl i) k)).1.2] (fun t ht => ?_)
  obtain rfl : t = ((p.sh i).hear (atK (p.fl i) k)).1.2 := by simpa using ht
  have a1 : ((p.drop i k).2.setSh i ((p.sh i).hear (atK (p.fl i) k)).2).ls i = ((p.sh i).hear (atK (p.fl i) k)).2.lasts := by rcases hi with rfl | rfl <;> rfl
  have a2 : ((p.drop i k).2.setSh i ((p.sh i).hear (atK (p.fl i) k)).2).ls (1 - i) = p.ls (1 - i) := by rcases hi with rfl | rfl <;> rfl
  rw [a1, a2]
  exact gt2
end
def mkLe (a b : Mk) : Prop := a.m <= b.m /\ a.s <= b.s /\ a.a <= b.a /\ a.n <= b.n
def Kn.dd (q : Kn) : Dd := ⟨q.sh, q.nu⟩
structure KI (k : Kp) (p : Pr) : Prop where
 h1 : ∀ q ∈ k.kn, q.how = 1 -> q.dd ∈ p.pl
 h2 : ∀ q ∈ k.kn, q.how = 2 -> q.dd ∉ p.pl
 dd : ∀ x ∈ p.pl, (∃ q ∈ k.kn, q.dd = x) ∨ (x.sh = 0 /\ k.d0 = true) ∨ (x.sh = 1 /\ k.d1 = true)
 id : ∀ q ∈ k.kn, (q.sh = 0 /\ q.nu <= (p.ls 0).ms.m) ∨ (q.sh = 1 /\ q.nu <= (p.ls 1).ms.m)
 nd : k.kn.Pairwise (fun a b => ¬ a.dd = b.dd)
 m0 : mkLe k.m0 (p.ls 0).ms
 m1 : mkLe k.m1 (p.ls 1).ms
theorem mkLe_le {a : Mk} {d e : Ds} (h : mkLe a d.ms) (h' : d.le e) : mkLe a e.ms := ⟨Int.le_trans h.1 h'.1, Int.le_trans h.2.1 h'.2.1, Int.le_trans h.2.2.1 h'.2.2.1, Int.le_trans h.2.2.2 h'.2.2.2⟩
section
variable {k : Kp} {p q : Pr} {i : Int}
theorem KI.quiet (h : KI k p) (g : QP p q) : KI k q := by
 refine ⟨fun x hx e => (g.pm _).2 (h.h1 x hx e), fun x hx e c => h.h2 x hx e ((g.pm _).1 c), fun x hx => h.dd x ((g.pm _).1 hx), fun x hx => ?_, h.nd, mkLe_le h.m0 g.l0, mkLe_le h.m1 g.l1⟩
 rcases h.id x hx with e | e
 ·exact .inl ⟨e.1, Int.le_trans e.2 g.l0.1⟩
 ·exact .inr ⟨e.1, Int.le_trans e.2 g.l1.1⟩
theorem KI.doubt (h : KI k p) (i : Int) : KI (k.doubt i) p := by
 unfold Kp.doubt
 split
 ·refine ⟨h.h1, h.h2, fun x hx => ?_, h.id, h.nd, h.m0, h.m1⟩
  rcases h.dd x hx with e | e | e
  ·exact .inl e
  ·exact .inr (.inl ⟨e.1, rfl⟩)
  ·exact .inr (.inr e)
 ·refine ⟨h.h1, h.h2, fun x hx => ?_, h.id, h.nd, h.m0, h.m1⟩
  rcases h.dd x hx with e | e | e
  ·exact .inl e
  ·exact .inr (.inl e)
  ·exact .inr (.inr ⟨e.1, rfl⟩)
theorem KI.idAt (h : KI k p) (hi : is01 i) {q : Kn} (hq : q ∈ k.kn) (e : q.sh = i) : q.nu <= (p.ls i).ms.m := by
 rcases h.id q hq with ⟨a, b⟩ | ⟨a, b⟩
 ·rcases hi with rfl | rfl
  ·exact b
  ·rw [a] at e; exact absurd e (by decide)
 ·rcases hi with rfl | rfl
  ·rw [a] at e; exact absurd e (by decide)
  ·exact b
theorem KI.grew (h : KI k p) (hi : is01 i) {x : Dd} (hx : x.sh = i) (pm : ∀ y, y ∈ q.pl ↔ y = x ∨ y ∈ p.pl) (hn : x.nu = (p.ls i).ms.m + 1) (l0 : (p.ls 0).le (q.ls 0)) (l1 : (p.ls 1).le (q.ls 1)) (hm : (q.ls i).ms.m = x.nu) :
  KI (k.add x.sh x.nu) q /\ KI (k.doubt i) q := by
 have nk : ∀ z ∈ k.kn, z.dd ≠ x := fun z hz e => by
  have e1 : z.sh = x.sh := by rw [<- e]; rfl
  have e2 : z.nu = x.nu := by rw [<- e]; rfl
  have := h.idAt hi hz (e1.trans hx)
  omega
 have id' : ∀ z ∈ k.kn, (z.sh = 0 /\ z.nu <= (q.ls 0).ms.m) ∨ (z.sh = 1 /\ z.nu <= (q.ls 1).ms.m) := fun z hz => by
  rcases h.id z hz with e | e
  ·exact .inl ⟨e.1, Int.le_trans e.2 l0.1⟩
  ·exact .inr ⟨e.1, Int.le_trans e.2 l1.1⟩
 have mm : ∀ z, z ∈ (k.add x.sh x.nu).kn -> z ∈ k.kn ∨ z = ⟨x.sh, x.nu, 1⟩ := fun z hz => by
  rcases List.mem_append.1 (show z ∈ k.kn ++ [(⟨x.sh, x.nu, 1⟩ : Kn)] from hz) with e | e
  ·exact .inl e
  ·exact .inr (by simpa using e)
 refine ⟨⟨fun z hz e => ?_, fun z hz e => ?_, fun y hy => ?_, fun z hz => ?_, ?_, mkLe_le h.m0 l0, mkLe_le h.m1 l1⟩, ?_⟩
 ·rcases mm z hz with hz | rfl
  ·exact (pm _).2 (.inr (h.h1 z hz e))
  ·exact (pm _).2 (.inl rfl)
 ·rcases mm z hz with hz | rfl
  ·intro c
   rcases (pm _).1 c with c | c
   ·exact nk z hz c
   ·exact h.h2 z hz e c
  ·exact absurd e (by show ¬ (1 : Int) = 2; decide)
 ·rcases (pm _).1 hy with rfl | hy
  ·exact .inl ⟨⟨y.sh, y.nu, 1⟩, List.mem_append_right _ (.head _), rfl⟩
  ·rcases h.dd y hy with ⟨z, hz, e⟩ | e
   ·exact .inl ⟨z, List.mem_append_left _ hz, e⟩
   ·exact .inr e
 ·rcases mm z hz with hz | rfl
  ·exact id' z hz
  ·rcases hi with rfl | rfl
   ·exact .inl ⟨hx, by rw [hm]; exact Int.le_refl _⟩
   ·exact .inr ⟨hx, by rw [hm]; exact Int.le_refl _⟩
 ·show (k.kn ++ [(⟨x.sh, x.nu, 1⟩ : Kn)]).Pairwise _
  rw [List.pairwise_append]
  refine ⟨h.nd, List.pairwise_singleton _ _, fun a ha b hb => ?_⟩
  obtain rfl : b = ⟨x.sh, x.nu, 1⟩ := by simpa using hb
  exact nk a ha
 ·have ek : (k.doubt i).kn = k.kn := by unfold Kp.doubt; split <;> rfl
  have e0 : (k.doubt i).m0 = k.m0 /\ (k.doubt i).m1 = k.m1 := by unfold Kp.doubt; split <;> exact ⟨rfl, rfl⟩
  refine ⟨fun z hz e => ?_, fun z hz e c => ?_, fun y hy => ?_, fun z hz => ?_, by rw [ek]; exact h.nd, by rw [e0.1]; exact mkLe_le h.m0 l0, by rw [e0.2]; exact mkLe_le h.m1 l1⟩
  ·rw [ek] at hz
   exact (pm _).2 (.inr (h.h1 z hz e))
  ·rw [ek] at hz
   rcases (pm _).1 c with c | c
   ·exact nk z hz c
   ·exact h.h2 z hz e c
  ·rcases (pm _).1 hy with rfl | hy
   ·rcases hi with rfl | rfl
    ·exact .inr (.inl ⟨hx, rfl⟩)
    ·exact .inr (.inr ⟨hx, rfl⟩)
   ·exact (h.doubt i).dd y hy
  ·rw [ek] at hz
   exact id' z hz
theorem KI.fell (h : KI k p) {n : Nat} (hn : n < k.kn.length) (pm : ∀ y, y ∈ p.pl ↔ y = k.kn[n].dd ∨ y ∈ q.pl) (nx : k.kn[n].dd ∉ q.pl) (l0 : (p.ls 0).le (q.ls 0)) (l1 : (p.ls 1).le (q.ls 1)) {v : Int} (hv : v = 2 ∨ v = 3) : KI (k.how n v) q := by
 have nk : ∀ m (hm : m < k.kn.length), m ≠ n -> k.kn[m].dd ≠ k.kn[n].dd := fun m hm ne e => by
  have pw := List.pairwise_iff_getElem.1 h.nd
  rcases Nat.lt_or_gt_of_ne ne with c | c
  ·exact pw m n hm hn c e
  ·exact pw n m hn hm c e.symm
 have mm : ∀ z, z ∈ (k.how n v).kn -> (∃ m, ∃ hm : m < k.kn.length, m ≠ n /\ z = k.kn[m]) ∨ z = { k.kn[n] with how := v } := fun z hz => by
  obtain ⟨m, hm, rfl⟩ := List.getElem_of_mem (show z ∈ k.kn.modify n (fun q => { q with how := v }) from hz)
  rw [List.length_modify] at hm
  rw [List.getElem_modify]
  split
  ·rename_i e; subst e; exact .inr rfl
  ·rename_i e; exact .inl ⟨m, hm, fun c => e c.symm, rfl⟩
 have id' : ∀ z ∈ k.kn, (z.sh = 0 /\ z.nu <= (q.ls 0).ms.m) ∨ (z.sh = 1 /\ z.nu <= (q.ls 1).ms.m) := fun z hz => by
  rcases h.id z hz with e | e
  ·exact .inl ⟨e.1, Int.le_trans e.2 l0.1⟩
  ·exact .inr ⟨e.1, Int.le_trans e.2 l1.1⟩
 refine ⟨fun z hz e => ?_, fun z hz e c => ?_, fun y hy => ?_, fun z hz => ?_, ?_, mkLe_le h.m0 l0, mkLe_le h.m1 l1⟩
 ·rcases mm z hz with ⟨m, hm, ne, rfl⟩ | rfl
  ·rcases (pm _).1 (h.h1 _ (List.getElem_mem hm) e) with c | c
   ·exact absurd c (nk m hm ne)
   ·exact c
  ·rcases hv with rfl | rfl
   ·exact absurd e (by show ¬ (2 : Int) = 1; decide)
   ·exact absurd e (by show ¬ (3 : Int) = 1; decide)
 ·rcases mm z hz with ⟨m, hm, ne, rfl⟩ | rfl
  ·exact h.h2 _ (List.getElem_mem hm) e ((pm _).2 (.inr c))
  ·exact nx c
 ·rcases h.dd y ((pm _).2 (.inr hy)) with ⟨z, hz, e⟩ | e
  ·obtain ⟨m, hm, rfl⟩ := List.getElem_of_mem hz
   by_cases c : m = n
   ·subst c
    rw [e] at nx
    exact absurd hy nx
   ·refine .inl ⟨k.kn[m], ?_, e⟩
    show k.kn[m] ∈ k.kn.modify n _
    have := List.getElem_mem (l := k.kn.modify n (fun q => { q with how := v })) (n := m) (by rw [List.length_modify]; exact hm)
    rw [List.getElem_modify, if_neg (fun c' => c c'.symm)] at this
    exact this
  ·exact .inr e
 ·rcases mm z hz with ⟨m, hm, ne, rfl⟩ | rfl
  ·exact id' _ (List.getElem_mem hm)
  ·exact id' k.kn[n] (List.getElem_mem hn)
 ·show (k.kn.modify n (fun q => { q with how := v })).Pairwise _
  rw [List.pairwise_iff_getElem]
  intro a b ha hb hab
  rw [List.length_modify] at ha hb
  rw [List.getElem_modify, List.getElem_modify]
  have pw := List.pairwise_iff_getElem.1 h.nd a b ha hb hab
  split <;> split <;> exact pw
theorem KI.unsure (h : KI k p) {n : Nat} (hn : n < k.kn.length) : KI (k.how n 3) p := by
 have mm : ∀ z, z ∈ (k.how n 3).kn -> z ∈ k.kn ∨ z = { k.kn[n] with how := 3 } := fun z hz => by
  obtain ⟨m, hm, rfl⟩ := List.getElem_of_mem (show z ∈ k.kn.modify n (fun q => { q with how := 3 }) from hz)
  rw [List.length_modify] at hm
  rw [List.getElem_modify]
  split
  ·rename_i e; subst e; exact .inr rfl
  ·exact .inl (List.getElem_mem hm)
 refine ⟨fun z hz e => ?_, fun z hz e => ?_, fun y hy => ?_, fun z hz => ?_, ?_, h.m0, h.m1⟩
 ·rcases mm z hz with hz | rfl
  ·exact h.h1 z hz e
  ·exact absurd e (by show ¬ (3 : Int) = 1; decide)
 ·rcases mm z hz with hz | rfl
  ·exact h.h2 z hz e
  ·exact absurd e (by show ¬ (3 : Int) = 2; decide)
 ·rcases h.dd y hy with ⟨z, hz, e⟩ | e
  ·obtain ⟨m, hm, rfl⟩ := List.getElem_of_mem hz
   have := List.getElem_mem (l := k.kn.modify n (fun q => { q with how := 3 })) (n := m) (by rw [List.length_modify]; exact hm)
   rw [List.getElem_modify] at this
   split at this
   ·exact .inl ⟨_, this, e⟩
   ·exact .inl ⟨_, this, e⟩
  ·exact .inr e
 ·rcases mm z hz with hz | rfl
  ·exact h.id z hz
  ·exact h.id k.kn[n] (List.getElem_mem hn)
 ·show (k.kn.modify n (fun q => { q with how := 3 })).Pairwise _
  rw [List.pairwise_iff_getElem]
  intro a b ha hb hab
  rw [List.length_modify] at ha hb
  rw [List.getElem_modify, List.getElem_modify]
  have pw := List.pairwise_iff_getElem.1 h.nd a b ha hb hab
  split <;> split <;> exact pw
end
section
variable {k : Kp} {p : Pr} {i : Int}
theorem upE_01 (hi : is01 i) : p.upE i = 0 /\ (p.sh i).up = true ∨ p.upE i = 3 /\ (p.sh i).up = false := by
 cases hu : (p.sh i).up
 ·right
  refine ⟨?_, rfl⟩
  show YtammnaafdhhjaaaGreat.upE p.s0.up p.s1.up i = 3
  unfold YtammnaafdhhjaaaGreat.upE
  rw [if_pos hi]
  rcases hi with rfl | rfl
  ·exact if_neg (by show ¬ p.s0.up = true; rw [show p.s0.up = false from hu]; simp)
  ·exact if_neg (by show ¬ p.s1.up = true; rw [show p.s1.up = false from hu]; simp)
 ·left
  refine ⟨?_, rfl⟩
  show YtammnaafdhhjaaaGreat.upE p.s0.up p.s1.up i = 0
  unfold YtammnaafdhhjaaaGreat.upE
  rw [if_pos hi]
  rcases hi with rfl | rfl
  ·exact if_pos hu
  ·exact if_pos hu
theorem KI.back {n : Nat} (h : KI (k.how n 3) p) (hn : n < k.kn.length) (h1 : k.kn[n].how ≠ 1) (h2 : k.kn[n].how ≠ 2) : KI k p := by
 have hl : (k.kn.modify n (fun q => { q with how := 3 })).length = k.kn.length := List.length_modify ..
 have mem : ∀ m (hm : m < k.kn.length), ∃ z ∈ (k.how n 3).kn, z.dd = k.kn[m].dd /\ z.sh = k.kn[m].sh /\ z.nu = k.kn[m].nu /\ (m ≠ n -> z = k.kn[m]) := fun m hm => by
  refine ⟨(k.kn.modify n (fun q => { q with how := 3 }))[m]'(by rw [hl]; exact hm), List.getElem_mem _, ?_⟩
  rw [List.getElem_modify]
  split
  ·rename_i e; exact ⟨rfl, rfl, rfl, fun ne => absurd e.symm ne⟩
  ·exact ⟨rfl, rfl, rfl, fun _ => rfl⟩
 refine ⟨fun z hz e => ?_, fun z hz e => ?_, fun y hy => ?_, fun z hz => ?_, ?_, h.m0, h.m1⟩
 ·obtain ⟨m, hm, rfl⟩ := List.getElem_of_mem hz
  obtain ⟨z, hz, _, _, _, ez⟩ := mem m hm
  have ne : m ≠ n := fun c => by subst c; exact h1 e
  rw [<- ez ne] at e ⊢
  exact h.h1 z hz e
 ·obtain ⟨m, hm, rfl⟩ := List.getElem_of_mem hz
  obtain ⟨z, hz, _, _, _, ez⟩ := mem m hm
  have ne : m ≠ n := fun c => by subst c; exact h2 e
  rw [<- ez ne] at e ⊢
  exact h.h2 z hz e
 ·rcases h.dd y hy with ⟨z, hz, e⟩ | e
  ·obtain ⟨m, hm, rfl⟩ := List.getElem_of_mem (show z ∈ k.kn.modify n (fun q => { q with how := 3 }) from hz)
   have hm' : m < k.kn.length := by rw [<- hl]; exact hm
   refine .inl ⟨k.kn[m], List.getElem_mem hm', ?_⟩
   rw [<- e, List.getElem_modify]
   split <;> rfl
  ·exact .inr e
 ·obtain ⟨m, hm, rfl⟩ := List.getElem_of_mem hz
  obtain ⟨z, hz, _, e1, e2, _⟩ := mem m hm
  have := h.id z hz
  rwa [e1, e2] at this
 ·have pw := List.pairwise_iff_getElem.1 (show (k.kn.modify n (fun q => { q with how := 3 })).Pairwise _ from h.nd)
  rw [List.pairwise_iff_getElem]
  intro a b ha hb hab
  have := pw a b (by rw [hl]; exact ha) (by rw [hl]; exact hb) hab
  rw [List.getElem_modify, List.getElem_modify] at this
  revert this
  split <;> split <;> exact fun t => t
theorem set_pl (hi : is01 i) {s : Sh} {d : Ds} (e : s.lasts = d) : (∀ x, x ∈ (p.setSh i s).pl ↔ x ∈ PL d (p.ls (1 - i))) /\ (p.setSh i s).ls i = d := by
 refine ⟨fun x => by rw [pl_set hi x, e], ?_⟩
 rcases hi with rfl | rfl <;> exact e
theorem mint_inv (gd : PGd p) (h : WP p 0) (ki : KI k p) (hi : is01 i) (pl sp : Nat) (hp : nearB pl = true) (hq : nearB sp = true) (hs : sideB pl = i) (wp : pl < 4294967296) (wq : sp < 4294967296) :
  (k.minted i (p.upE i) (p.mint i pl sp).1.1 (p.mint i pl sp).1.2.1 (p.mint i pl sp).1.2.2).1 = true /\ WP (p.mint i pl sp).2 0 /\ KI (k.minted i (p.upE i) (p.mint i pl sp).1.1 (p.mint i pl sp).1.2.1 (p.mint i pl sp).1.2.2).2 (p.mint i pl sp).2 := by
 unfold Pr.mint
 rcases upE_01 (p := p) hi with ⟨hu, up⟩ | ⟨hu, up⟩
 ·rw [if_pos hu, hu]
  obtain ⟨⟨r, g⟩, no⟩ := gd.at hi
  obtain ⟨_, _, _, _, _, has, _⟩ := g.has up
  have lu := ls_up gd hi up
  have em : (p.ls i).ms.m = (p.sh i).ms.m := by rw [lu]; rfl
  have same : p.setSh i (p.sh i) = p := set_pick hi
  have m0 : 0 <= (p.sh i).ms.m := has.mo.m0
  have m1 : (p.sh i).ms.m <= 65535 := has.mo.m1
  unfold Sh.mint
  rw [if_neg (by rw [hp, hq, hs, no]; simp)]
  split
  ·dsimp only
   rw [same]
   exact ⟨rfl, h, ki⟩
  rename_i c
  have hm : (p.sh i).ms.m < 65535 := by omega
  obtain ⟨ib, tp⟩ := told_mint g.no m0 hm hp hq wp wq
  have er : (p.sh i).mintRec pl sp = mintRc (p.sh i).no (p.sh i).ms.m pl sp := rfl
  have ok : DOk (p.sh i).no (p.sh i).cI (p.sh i).ds (mintRc (p.sh i).no (p.sh i).ms.m pl sp) := by
   refine ⟨.inl rfl, fun _ => ⟨rfl, rfl, hm, ?_, ib, ⟨wp, wq⟩⟩, fun e => absurd e (by show ¬ (1 : Int) = 2; decide), id_i64 (it_parts ib).1, fun e => absurd e (by show ¬ (1 : Int) = 4; decide), fun e => absurd e (by show ¬ (1 : Int) = 5; decide)⟩
   have := (srtTh_perm (p.sh i).th).length_eq
   show ((srtTh (p.sh i).th).length : Int) < _
   omega
  have wm := (h.at hi).mint hi (p.sh i).no (p.sh i).cO pl sp no
  rw [er]
  have er2 : mintRc (p.sh i).no (p.sh i).ms.m pl sp = mintRc (p.sh i).no (p.ls i).ms.m pl sp := by rw [em]
  have grew : ∀ s : Sh, s.lasts = (p.ls i).doR (p.sh i).no (p.sh i).cO (mintRc (p.sh i).no (p.ls i).ms.m pl sp) -> WP (p.setSh i s) 0 /\ KI (k.add i ((p.sh i).ms.m + 1)) (p.setSh i s) /\ KI (k.doubt i) (p.setSh i s) := fun s es => by
   obtain ⟨s1, s2⟩ := set_pl (p := p) hi es
   obtain ⟨l0, l1⟩ := le_set (p := p) (s := s) hi (by rw [es]; exact ⟨by show (p.ls i).ms.m <= (p.ls i).ms.m + 1; omega, Int.le_refl _, Int.le_refl _, Int.le_refl _⟩)
   have kg := ki.grew (q := p.setSh i s) hi (x := ⟨i, (p.ls i).ms.m + 1⟩) rfl (fun y => by rw [s1 y, wm.2.1.mem_iff, List.mem_cons, <- pl_at hi y]) rfl l0 l1 (by rw [s2]; rfl)
   rw [<- em]
   exact ⟨WP.set hi (by rw [es]; exact wm.1), kg.1, kg.2⟩
  have nf : findK k.kn i ((p.sh i).ms.m + 1) = -1 := findK_neg fun q hq e => by
   have := ki.idAt hi hq e.1
   omega
  rcases jrn_step g up tp ok with ⟨e1, e2⟩ | ⟨e1, e2, e3⟩ | ⟨e1, e2, e3⟩
  ·rw [e1, if_neg (by decide), e2]
   dsimp only
   rw [same]
   exact ⟨rfl, h, ki⟩
  ·rw [e1, if_neg (by decide)]
   dsimp only
   have em' : k.minted i 0 0 0 3 = (true, k.doubt i) := by unfold Kp.minted; simp
   rw [em']
   rcases e3 with e3 | e3
   ·have es : ((p.sh i).jrn (mintRc (p.sh i).no (p.sh i).ms.m pl sp)).2.lasts = p.ls i := by rw [e3, lu]
    have Q := QP.set (p := p) hi (by rw [es]; exact h.at hi) (by rw [es]; exact Qt.refl _ _)
    exact ⟨rfl, Q.w, (ki.doubt i).quiet Q⟩
   ·have G := grew _ (by rw [e3, <- lu, <- er2])
    exact ⟨rfl, G.1, G.2.2⟩
  ·rw [e1, if_pos rfl]
   dsimp only
   have em' : k.minted i 0 ((p.sh i).no : Int) ((p.sh i).ms.m + 1) 0 = (true, k.add i ((p.sh i).ms.m + 1)) := by
    unfold Kp.minted
    rw [no, nf]
    simp
   rw [em']
   have G := grew _ (by rw [lasts_up (jrn_good g up tp ok).2 e2, e3, <- lu, <- er2])
   exact ⟨rfl, G.1, G.2.1⟩
 ·rw [if_neg (by rw [hu]; decide), hu]
  exact ⟨rfl, h, ki⟩
theorem dest_inv (gd : PGd p) (h : WP p 0) (ki : KI k p) (hi : is01 i) {n : Nat} (hn : n < k.kn.length) :
  (k.destroyed n k.kn[n].how (p.upE i) (p.destroy i k.kn[n].sh k.kn[n].nu).1).1 = true /\ WP (p.destroy i k.kn[n].sh k.kn[n].nu).2 0 /\ KI (k.destroyed n k.kn[n].how (p.upE i) (p.destroy i k.kn[n].sh k.kn[n].nu).1).2 (p.destroy i k.kn[n].sh k.kn[n].nu).2 := by
 unfold Pr.destroy Pr.onUp
 rcases upE_01 (p := p) hi with ⟨hu, up⟩ | ⟨hu, up⟩
 ·rw [if_pos hu, hu]
  obtain ⟨⟨r, g⟩, no⟩ := gd.at hi
  obtain ⟨_, _, _, _, _, has, _⟩ := g.has up
  have lu := ls_up gd hi up
  have same : p.setSh i (p.sh i) = p := set_pick hi
  dsimp only
  unfold Sh.dest
  by_cases ht : hasTh (p.sh i).th k.kn[n].sh k.kn[n].nu = true
  ·rw [if_pos ht]
   have hx := (has_th (s := p.sh i) k.kn[n].sh k.kn[n].nu).1 ht
   have dg := dest_good g up k.kn[n].sh k.kn[n].nu ht
   have tp := told_dest dg.1
   have ok : DOk (p.sh i).no (p.sh i).cI (p.sh i).ds (destRec k.kn[n].sh k.kn[n].nu) := by
    refine ⟨.inr (.inl rfl), fun e => absurd e (by show ¬ (2 : Int) = 1; decide), fun _ => ?_, id_i64 dg.1, fun e => absurd e (by show ¬ (2 : Int) = 4; decide), fun e => absurd e (by show ¬ (2 : Int) = 5; decide)⟩
    obtain ⟨x, hx, e1, e2⟩ := hx
    exact ⟨x, hx, e1, e2⟩
   have wd := (h.at hi).dest (by rw [lu]; exact has.ord) (p.sh i).no (p.sh i).cO k.kn[n].sh k.kn[n].nu (by rw [lu]; exact hx)
   have inp : k.kn[n].dd ∈ p.pl := by
    rw [pl_at hi, wd.2.1.mem_iff]
    exact .head _
   have n2 : k.kn[n].how ≠ 2 := fun e => ki.h2 _ (List.getElem_mem hn) e inp
   have fell : ∀ s : Sh, s.lasts = (p.ls i).doR (p.sh i).no (p.sh i).cO (destRec k.kn[n].sh k.kn[n].nu) -> ∀ v : Int, v = 2 ∨ v = 3 -> WP (p.setSh i s) 0 /\ KI (k.how n v) (p.setSh i s) := fun s es v hv => by
    obtain ⟨s1, s2⟩ := set_pl (p := p) hi es
    obtain ⟨l0, l1⟩ := le_set (p := p) (s := s) hi (by rw [es]; exact Ds.le_refl _)
    refine ⟨WP.set hi (by rw [es]; exact wd.1), ki.fell hn (fun y => ?_) ?_ l0 l1 hv⟩
    ·rw [pl_at hi y, wd.2.1.mem_iff, List.mem_cons, s1 y]; rfl
    ·rw [s1]; exact wd.2.2
   rcases jrn_step g up tp ok with ⟨e1, e2⟩ | ⟨e1, e2, e3⟩ | ⟨e1, e2, e3⟩
   ·rw [e1, e2, same]
    exact ⟨rfl, h, ki⟩
   ·rw [e1]
    have ed : k.destroyed n k.kn[n].how 0 3 = (true, if k.kn[n].how = 1 then k.how n 3 else k) := by unfold Kp.destroyed; simp
    rw [ed]
    rcases e3 with e3 | e3
    ·have es : ((p.sh i).jrn (destRec k.kn[n].sh k.kn[n].nu)).2.lasts = p.ls i := by rw [e3, lu]
     have Q := QP.set (p := p) hi (by rw [es]; exact h.at hi) (by rw [es]; exact Qt.refl _ _)
     refine ⟨rfl, Q.w, ?_⟩
     dsimp only
     split
     ·exact (ki.unsure hn).quiet Q
     ·exact ki.quiet Q
    ·have F := fell _ (by rw [e3, <- lu]) 3 (.inr rfl)
     refine ⟨rfl, F.1, ?_⟩
     dsimp only
     split
     ·exact F.2
     ·rename_i n1
      exact F.2.back hn n1 n2
   ·rw [e1]
    have ed : k.destroyed n k.kn[n].how 0 0 = (true, k.how n 2) := by unfold Kp.destroyed; simp [n2]
    rw [ed]
    have F := fell _ (by rw [lasts_up (jrn_good g up tp ok).2 e2, e3, <- lu]) 2 (.inl rfl)
    exact ⟨rfl, F.1, F.2⟩
  ·rw [if_neg ht]
   dsimp only
   rw [same]
   exact ⟨rfl, h, ki⟩
 ·rw [if_neg (by rw [hu]; decide), hu]
  exact ⟨rfl, h, ki⟩
end
section
variable {k : Kp} {p : Pr} {i : Int}
theorem kAct_inv (gd : PGd p) (h : WP p 0) (ki : KI k p) (hi : is01 i) (K n m : Int) (pl sp : Nat) (hp : pl < 4294967296) (hq : sp < 4294967296) :
  (kAct k p K i n m pl sp).1 = true /\ WP (kAct k p K i n m pl sp).2.2 0 /\ KI (kAct k p K i n m pl sp).2.1 (kAct k p K i n m pl sp).2.2 := by
 unfold kAct
 by_cases k1 : K = 1
 ·rw [if_pos k1]
  have sf := sideF_ok hp hi
  exact mint_inv gd h ki hi (sideF pl i) (speedF sp) sf.1 (speedF_ok hq).1 sf.2 (sideF_lt hp i) (speedF_ok hq).2
 rw [if_neg k1]
 by_cases k2 : K = 2
 ·rw [if_pos k2]
  by_cases hn : k.kn = []
  ·rw [if_pos hn]
   exact ⟨rfl, h, ki⟩
  ·rw [if_neg hn]
   have hlen : 0 < k.kn.length := List.length_pos_iff.2 hn
   have hb := pickN_lt n k.kn.length (by omega)
   have hj : (pickN n k.kn.length).toNat < k.kn.length := by omega
   have ea : k.at (pickN n k.kn.length).toNat = k.kn[(pickN n k.kn.length).toNat] := by simp [Kp.at, List.getElem?_eq_getElem hj]
   dsimp only
   rw [ea]
   exact dest_inv gd h ki hi hj
 rw [if_neg k2]
 have q : ∀ p' : Pr, QP p p' -> True /\ WP p' 0 /\ KI k p' := fun p' g => ⟨trivial, g.w, ki.quiet g⟩
 refine ⟨rfl, ?_⟩
 dsimp only
 by_cases k3 : K = 3
 ·rw [if_pos k3]; exact (q _ (tick_q gd h i)).2
 rw [if_neg k3]
 by_cases k4 : K = 4
 ·rw [if_pos k4]; exact (q _ (snap_q gd h i)).2
 rw [if_neg k4]
 by_cases k5 : K = 5
 ·rw [if_pos k5]; exact (q _ (brk_q gd h i _ m)).2
 rw [if_neg k5]
 by_cases k6 : K = 6
 ·rw [if_pos k6]; exact (q _ (crash_q gd h i m)).2
 rw [if_neg k6]
 by_cases k7 : K = 7
 ·rw [if_pos k7]; exact (q _ (restart_q gd h i)).2
 rw [if_neg k7]
 by_cases k8 : K = 8
 ·rw [if_pos k8]; exact (q _ (send_q gd h i)).2
 rw [if_neg k8]
 by_cases k9 : K = 9
 ·rw [if_pos k9]; exact (q _ (deliver_q gd h i n)).2
 rw [if_neg k9]
 by_cases k10 : K = 10
 ·rw [if_pos k10]; exact (q _ (drop_q h i n)).2
 rw [if_neg k10]
 by_cases k11 : K = 11
 ·rw [if_pos k11]; exact (q _ (double_q h i n)).2
 rw [if_neg k11]
 by_cases k12 : K = 12
 ·rw [if_pos k12]; exact (q _ (spoil_q h i n m)).2
 rw [if_neg k12]
 exact ⟨h, ki⟩
theorem told_pl (gd : PGd p) (h0 : p.upE 0 = 0) (h1 : p.upE 1 = 0) : p.there 0 ++ p.there 1 = p.pl /\ p.marks 0 = (p.ls 0).ms /\ p.marks 1 = (p.ls 1).ms := by
 have l0 := ls_up gd (upE_at h0).1 (upE_at h0).2
 have l1 := ls_up gd (upE_at h1).1 (upE_at h1).2
 have m0 : p.marks 0 = (p.ls 0).ms := by unfold Pr.marks; rw [if_pos h0, l0]; rfl
 have m1 : p.marks 1 = (p.ls 1).ms := by unfold Pr.marks; rw [if_pos h1, l1]; rfl
 refine ⟨?_, m0, m1⟩
 unfold Pr.there Pr.pl PL thereD cnt
 rw [show (1 : Int) - 0 = 1 from rfl, show (1 : Int) - 1 = 0 from rfl, m0, m1]
 unfold Pr.world Pr.outbox
 rw [if_pos h0, if_pos h0, if_pos h1, if_pos h1, l0, l1]
 rfl
theorem dd_ext {a b : Dd} (h1 : a.sh = b.sh) (h2 : a.nu = b.nu) : a = b := by
 cases a; cases b; simp only at h1 h2; rw [h1, h2]
theorem right_ok (h : WP p 0) (ki : KI k p) : RightOk k p.pl := by
 have hh : WH 0 (p.ls 0) (p.ls 1) p.f0 p.f1 := h
 refine ⟨fun i j hi hj e => ?_, fun d hd q hq e1 e2 e3 => ?_, fun d hd => ?_, fun q hq e => ?_⟩
 ·have nd' : p.pl.Nodup := hh.nd
  have nd := List.pairwise_iff_getElem.1 nd' j i (by omega) hi hj
  exact nd (dd_ext e.1 e.2)
 ·exact ki.h2 q hq e3 (by rw [show q.dd = d from dd_ext e1 e2]; exact hd)
 ·rcases ki.dd d hd with ⟨q, hq, e⟩ | e
  ·left
   rcases Int.lt_or_le (findK k.kn d.sh d.nu) 0 with c | c
   ·exact absurd ⟨by rw [<- e]; rfl, by rw [<- e]; rfl⟩ (findK_lt c q hq)
   ·exact c
  ·exact .inr e
 ·exact hasD_iff.2 ⟨q.dd, ki.h1 q hq e, rfl, rfl⟩
theorem right_marks (h : WP p 0) (ki : KI k p) : fellB (p.ls 0).ms k.m0 (p.ls 1).ms = false /\ fellB (p.ls 1).ms k.m1 (p.ls 0).ms = false := by
 have hh : WH 0 (p.ls 0) (p.ls 1) p.f0 p.f1 := h
 obtain ⟨a1, a2, a3, a4⟩ := ki.m0
 obtain ⟨b1, b2, b3, b4⟩ := ki.m1
 have c1 := hh.a
 have c2 := hh.n
 have c3 := hh.a'
 have c4 := hh.n'
 unfold fellB
 simp only [Bool.or_eq_false_iff, decide_eq_false_iff_not]
 omega
theorem settle_dd (l : List Dd) (q : Kn) : (settle l q).dd = q.dd /\ (settle l q).sh = q.sh /\ (settle l q).nu = q.nu := by
 unfold settle
 split <;> exact ⟨rfl, rfl, rfl⟩
theorem newK_mem {kn : List Kn} {l : List Dd} {q : Kn} (h : q ∈ newK kn l) : q ∈ kn ∨ (∃ d ∈ l, findK kn d.sh d.nu < 0 /\ q = ⟨d.sh, d.nu, 1⟩) := by
 unfold newK at h
 rcases List.mem_append.1 h with h | h
 ·exact .inl h
 ·obtain ⟨d, hd, rfl⟩ := List.mem_map.1 h
  have := List.mem_filter.1 hd
  exact .inr ⟨d, this.1, of_decide_eq_true this.2, rfl⟩
theorem right_inv (h : WP p 0) (ki : KI k p) : KI (k.right p.pl (p.ls 0).ms (p.ls 1).ms) p := by
 have hh : WH 0 (p.ls 0) (p.ls 1) p.f0 p.f1 := h
 have mm : ∀ z, z ∈ (newK k.kn p.pl).map (settle p.pl) -> ∃ q ∈ newK k.kn p.pl, z = settle p.pl q := fun z hz => by
  obtain ⟨q, hq, rfl⟩ := List.mem_map.1 hz
  exact ⟨q, hq, rfl⟩
 have has : ∀ q : Kn, hasD p.pl q.sh q.nu = true ↔ q.dd ∈ p.pl := fun q => by
  rw [hasD_iff]
  constructor
  ·rintro ⟨d, hd, e1, e2⟩
   rw [show q.dd = d from dd_ext e1.symm e2.symm]
   exact hd
  ·exact fun hq => ⟨q.dd, hq, rfl, rfl⟩
 refine ⟨fun z hz e => ?_, fun z hz e c => ?_, fun x hx => ?_, fun z hz => ?_, ?_, ⟨Int.le_refl _, Int.le_refl _, Int.le_refl _, Int.le_refl _⟩, ⟨Int.le_refl _, Int.le_refl _, Int.le_refl _, Int.le_refl _⟩⟩
 ·obtain ⟨q, hq, rfl⟩ := mm z hz
  rw [(settle_dd _ q).1]
  unfold settle at e
  split at e
  ·by_cases c : hasD p.pl q.sh q.nu = true
   ·exact (has q).1 c
   ·rw [if_neg c] at e; exact absurd e (by show ¬ (2 : Int) = 1; decide)
  ·rcases newK_mem hq with hq | ⟨d, hd, _, rfl⟩
   ·exact ki.h1 q hq e
   ·exact hd
 ·obtain ⟨q, hq, rfl⟩ := mm z hz
  rw [(settle_dd _ q).1] at c
  unfold settle at e
  split at e
  ·rw [if_pos ((has q).2 c)] at e; exact absurd e (by show ¬ (1 : Int) = 2; decide)
  ·rcases newK_mem hq with hq | ⟨d, hd, _, rfl⟩
   ·exact ki.h2 q hq e c
   ·exact absurd e (by show ¬ (1 : Int) = 2; decide)
 ·left
  have : ∃ q ∈ newK k.kn p.pl, q.dd = x := by
   unfold newK
   rcases Int.lt_or_le (findK k.kn x.sh x.nu) 0 with c | c
   ·exact ⟨⟨x.sh, x.nu, 1⟩, List.mem_append_right _ (List.mem_map.2 ⟨x, List.mem_filter.2 ⟨hx, decide_eq_true c⟩, rfl⟩), rfl⟩
   ·obtain ⟨n, hn, _, e1, e2⟩ := findK_pos c
    exact ⟨k.kn[n], List.mem_append_left _ (List.getElem_mem hn), dd_ext e1 e2⟩
  obtain ⟨q, hq, e⟩ := this
  exact ⟨settle p.pl q, List.mem_map_of_mem hq, (settle_dd _ q).1.trans e⟩
 ·obtain ⟨q, hq, rfl⟩ := mm z hz
  rw [(settle_dd _ q).2.1, (settle_dd _ q).2.2]
  rcases newK_mem hq with hq | ⟨d, hd, _, rfl⟩
  ·exact ki.id q hq
  ·exact hh.id d hd
 ·show ((newK k.kn p.pl).map (settle p.pl)).Pairwise _
  rw [List.pairwise_map]
  have pw : (newK k.kn p.pl).Pairwise (fun a b => ¬ a.dd = b.dd) := by
   unfold newK
   rw [List.pairwise_append]
   refine ⟨ki.nd, ?_, fun a ha b hb e => ?_⟩
   ·rw [List.pairwise_map]
    have := (hh.nd).filter (fun d => decide (findK k.kn d.sh d.nu < 0))
    exact List.Pairwise.imp (fun {a b} hab e => hab (dd_ext (congrArg Dd.sh e) (congrArg Dd.nu e))) this
   ·obtain ⟨d, hd, rfl⟩ := List.mem_map.1 hb
    have c := of_decide_eq_true (List.mem_filter.1 hd).2
    exact findK_lt c a ha ⟨congrArg Dd.sh e, congrArg Dd.nu e⟩
  exact List.Pairwise.imp (fun {a b} hab => by rw [(settle_dd _ a).1, (settle_dd _ b).1]; exact hab) pw
theorem room : ∀ (N : Nat) (l : List Nat), l.Nodup -> (∀ x ∈ l, x < N) -> l.length <= N
 | 0, [], _, _ => Nat.le_refl _
 | 0, x :: _, _, h => absurd (h x (.head _)) (Nat.not_lt_zero _)
 | N + 1, l, nd, h => by
  have r := room N (l.erase N) (nd.erase N) (fun x hx => by
   have h1 := h x (List.mem_of_mem_erase hx)
   have h2 : x ≠ N := fun e => by subst e; exact List.Nodup.not_mem_erase nd hx
   omega)
  rw [List.length_erase] at r
  split at r <;> omega
end
end Go.Proofs.YtammnaafdhhjaaaGreat
