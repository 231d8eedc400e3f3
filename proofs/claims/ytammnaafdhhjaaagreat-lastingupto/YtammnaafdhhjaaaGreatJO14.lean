import Derived.BigQuiet
import Derived.Test.YtammnaafdhhjaaaGreatRows
import Derived.Test.YtammnaafdhhjaaaGreatJW6
import Derived.Test.YtammnaafdhhjaaaGreatJO4
set_option maxHeartbeats 16000000
set_option maxRecDepth 100000
namespace Go.Proofs.YtammnaafdhhjaaaGreat
open Go.RowKit
theorem ownD_ge {B : Nat} {w : World} {v : Value} {l : List Dd} (h : OwnD B w v l) : ∀ j, v.ownBlock = some j -> B <= j /\ j < w.heap.size := fun j hj => by
  rcases h.2 with ⟨h', _⟩ | ⟨g, cap, cur, h', h1, h2, _⟩
  · rw [h'] at hj; cases hj
  · rw [h'] at hj
    injection hj with hj
    subst hj
    exact ⟨h1, (Array.getElem?_eq_some_iff.1 h2).1⟩
theorem ownD_low {B B' : Nat} {w : World} {v : Value} {l : List Dd} (h : OwnD B w v l) (hB : B' <= B) : OwnD B' w v l := by
  refine ⟨h.1, ?_⟩
  rcases h.2 with h' | ⟨g, cap, cur, h', h1, h2⟩
  · exact .inl h'
  · exact .inr ⟨g, cap, cur, h', Nat.le_trans hB h1, h2⟩
theorem itm_at {B : Nat} {w : World} {v : Value} {l : List It} (h : OwnI B w v l) : ∃ a c, v = .slice a l.length c /\ (0 < l.length -> ∃ g, a = some ⟨g, 0, none⟩ /\ B <= g /\ g < w.heap.size /\ ∀ k (hk : k < l.length), w.cell? ⟨g, k * 4, none⟩ = some (.int .i64 l[k].sh) /\ w.cell? ⟨g, k * 4 + 1, none⟩ = some (.int .i64 l[k].nu)) := by
  obtain ⟨a, c, rfl, hx⟩ := Lies.of_own h
  refine ⟨a, c, rfl, fun h0 => ?_⟩
  obtain ⟨g, off, rfl, hc⟩ := hx h0
  obtain ⟨rfl, h1, h2⟩ : off = 0 /\ B <= g /\ g < w.heap.size := by
    rcases h.2 with ⟨h', _⟩ | ⟨g', cap, cur, h', h1, h2, _⟩
    · injection h' with h' _ _; cases h'
    · injection h' with h' _ _
      injection h' with h'
      injection h' with e1 e2 _
      subst e1
      exact ⟨e2, h1, (Array.getElem?_eq_some_iff.1 h2).1⟩
  refine ⟨g, rfl, h1, h2, fun k hk => ?_⟩
  have d : ∀ j (hj : j < 4) u, l[k].cells[j]? = some u -> w.cell? ⟨g, k * 4 + j, none⟩ = some u := fun j hj u hu => by
    have := hc (4 * k + j) u (by rw [flat_at4 l k j hk hj]; exact hu)
    rw [show 0 + (4 * k + j) = k * 4 + j by omega] at this
    exact this
  exact ⟨d 0 (by omega) _ rfl, d 1 (by omega) _ rfl⟩
theorem ent_at {B : Nat} {w : World} {v : Value} {l : List En} (h : OwnE B w v l) : ∃ a c, v = .slice a l.length c /\ (0 < l.length -> ∃ g, a = some ⟨g, 0, none⟩ /\ B <= g /\ g < w.heap.size /\ ∀ k (hk : k < l.length), w.cell? ⟨g, k * 5, none⟩ = some (.int .i64 l[k].sq) /\ w.cell? ⟨g, k * 5 + 1, none⟩ = some (.int .i64 l[k].it.sh) /\ w.cell? ⟨g, k * 5 + 2, none⟩ = some (.int .i64 l[k].it.nu)) := by
  obtain ⟨a, c, rfl, hx⟩ := Lies.of_own h
  refine ⟨a, c, rfl, fun h0 => ?_⟩
  obtain ⟨g, off, rfl, hc⟩ := hx h0
  obtain ⟨rfl, h1, h2⟩ : off = 0 /\ B <= g /\ g < w.heap.size := by
    rcases h.2 with ⟨h', _⟩ | ⟨g', cap, cur, h', h1, h2, _⟩
    · injection h' with h' _ _; cases h'
    · injection h' with h' _ _
      injection h' with h'
      injection h' with e1 e2 _
      subst e1
      exact ⟨e2, h1, (Array.getElem?_eq_some_iff.1 h2).1⟩
  refine ⟨g, rfl, h1, h2, fun k hk => ?_⟩
  have d : ∀ j (hj : j < 5) u, l[k].cells[j]? = some u -> w.cell? ⟨g, k * 5 + j, none⟩ = some u := fun j hj u hu => by
    have := hc (5 * k + j) u (by rw [flat_at5 l k j hk hj]; exact hu)
    rw [show 0 + (5 * k + j) = k * 5 + j by omega] at this
    exact this
  exact ⟨d 0 (by omega) _ rfl, d 1 (by omega) _ rfl, d 2 (by omega) _ rfl⟩
structure OF (w0 ws wt wr : World) (v : Value) (l : List Dd) : Prop where
  ow : OwnD w0.heap.size wr v l
  nb : ∀ j, v.ownBlock = some j -> j < ws.heap.size ∨ wt.heap.size <= j
  on : Only wt wr (fun j => (w0.heap.size <= j /\ j < ws.heap.size) ∨ wt.heap.size <= j)
section
variable {w0 ws wt wr wq w' : World} {v v' : Value} {l l' : List Dd}
theorem OF.grown (h : OF w0 ws wt wr v l) (g : wr.grownBy wq none) : OF w0 ws wt wq v l :=
  ⟨(Only.grown g).own h.ow (by simp), h.nb, h.on.trans ((Only.grown g).mono (by simp))⟩
theorem OF.app (h : OF w0 ws wt wr v l) (o : OwnD w0.heap.size w' v' l') (g : wr.grownBy w' v.ownBlock) (hv : v'.ownBlock = v.ownBlock ∨ v'.ownBlock = some wr.heap.size) : OF w0 ws wt w' v' l' := by
  refine ⟨o, fun j hj => ?_, h.on.trans ((Only.grown g).mono (fun j _ hj => ?_))⟩
  · rcases hv with e | e
    · exact h.nb j (e ▸ hj)
    · rw [hj] at e
      injection e with e
      exact .inr (by rw [e]; exact h.on.size)
  · rcases h.nb j hj with e | e
    · exact .inl (.inl ⟨(ownD_ge h.ow j hj).1, e⟩)
    · exact .inl (.inr e)
theorem OF.start (h : OwnD w0.heap.size ws v l) (g : ws.grownBy wt none) : OF w0 ws wt wt v l :=
  ⟨(Only.grown g).own h (by simp), fun j hj => .inl (ownD_ge h j hj).2, Only.refl _ _⟩
end
theorem places_any (bk bp : Nat) (vk : Value) (D : Nat -> Prop) (kp : Kp) (p : Pr) (w : World) (h : KX w bk bp vk D kp p) (gd : PGd p) (h0 : p.upE 0 = 0) (h1 : p.upE 1 = 0) (hl : ∀ i, (p.world i).length <= 1000 /\ (p.outbox i).length <= 1000) :
    Calls Tryz.prog 26 #[.pointer (some ⟨bk, 0, none⟩)] w fun e w' => ∃ v, e = .returned (.tuple #[v, .bool true]) /\ OwnD w.heap.size w' v (p.there 0 ++ p.there 1) /\ w.grownBy w' none := by
  have H := Hid.mk' h
  have c0 := h.at_.c 0 _ rfl
  have hlt := h.at_.lt
  have C0 := Hid.mk' fun W (g : w.grownBy W none) => marks_px (h.grown g).pw 0
  have C1 := Hid.mk' fun W (g : w.grownBy W none) => marks_px (h.grown g).pw 1
  have CW0 := Hid.mk' fun W (g : w.grownBy W none) => world_px (h.grown g).pw gd 0
  have CO0 := Hid.mk' fun W (g : w.grownBy W none) => outbox_px (h.grown g).pw gd 0
  have CW1 := Hid.mk' fun W (g : w.grownBy W none) => world_px (h.grown g).pw gd 1
  have CO1 := Hid.mk' fun W (g : w.grownBy W none) => outbox_px (h.grown g).pw gd 1
  rw [h0] at C0 CW0 CO0
  rw [h1] at C1 CW1 CO1
  unfold mkV at C0 C1
  have l0 := hl 0
  have l1 := hl 1
  unfold Pr.there
  rw [show (1 : Int) - 0 = 1 from rfl, show (1 : Int) - 1 = 0 from rfl]
  generalize p.marks 0 = a at C0 ⊢
  generalize p.marks 1 = b at C1 ⊢
  generalize p.world 0 = X0 at CW0 l0 ⊢
  generalize p.outbox 0 = Y0 at CO0 l0 ⊢
  generalize p.world 1 = X1 at CW1 l1 ⊢
  generalize p.outbox 1 = Y1 at CO1 l1 ⊢
  have G0 := Hid.mk' (World.grownBy_alloc w (.cells #[.int .i64 0, .int .i64 0, .int .i64 0, .int .i64 0, .int .i64 0, .int .i64 0, .int .i64 0, .int .i64 0, .int .i64 0, .int .i64 0] 45) none)
  have A0 := Hid.mk' (At.new w [.int .i64 0, .int .i64 0, .int .i64 0, .int .i64 0, .int .i64 0, .int .i64 0, .int .i64 0, .int .i64 0, .int .i64 0, .int .i64 0] 45)
  clear h h0 h1 gd hl
  go_enter Tryz.func26, Tryz.ntmps26
  go_wp2_with fail
  refine wp_loop_rounds 3 ?_
  rw [rounds_succ]
  go_wp2_with fail
  refine Calls.mono (C0.out _ G0.out) ?_
  rintro e w1 ⟨rfl, g1⟩
  have Gw1 := Hid.mk' (G0.out.trans g1)
  have Aw1 : Hid (At w1 w.heap.size [.int .i64 0, .int .i64 0, .int .i64 0, .int .i64 0, .int .i64 0, .int .i64 0, .int .i64 0, .int .i64 0, .int .i64 0, .int .i64 0]) := Hid.mk' (A0.out.grown g1)
  clear g1
  have n0 := Aw1.out.c 0 _ rfl
  have n1 := Aw1.out.c 1 _ rfl
  have n2 := Aw1.out.c 2 _ rfl
  have n3 := Aw1.out.c 3 _ rfl
  have n4 := Aw1.out.c 4 _ rfl
  have nf := Aw1.out.f
  have nlt := Aw1.out.lt
  have nne : ¬ w.heap.size = w1.heap.size := by omega
  have nne' : ¬ w1.heap.size = w.heap.size := by omega
  have P : Hid (At ((((((w1.setCell ⟨w.heap.size, 0, none⟩ (.int .i64 a.g)).setCell ⟨w.heap.size, 1, none⟩ (.int .i64 a.m)).setCell ⟨w.heap.size, 2, none⟩ (.int .i64 a.s)).setCell ⟨w.heap.size, 3, none⟩ (.int .i64 a.a)).setCell ⟨w.heap.size, 4, none⟩ (.int .i64 a.n)).alloc (.cells #[.int .i64 a.g, .int .i64 a.m, .int .i64 a.s, .int .i64 a.a, .int .i64 a.n] 44)) w.heap.size [.int .i64 a.g, .int .i64 a.m, .int .i64 a.s, .int .i64 a.a, .int .i64 a.n, .int .i64 0, .int .i64 0, .int .i64 0, .int .i64 0, .int .i64 0] /\ w.grownBy ((((((w1.setCell ⟨w.heap.size, 0, none⟩ (.int .i64 a.g)).setCell ⟨w.heap.size, 1, none⟩ (.int .i64 a.m)).setCell ⟨w.heap.size, 2, none⟩ (.int .i64 a.s)).setCell ⟨w.heap.size, 3, none⟩ (.int .i64 a.a)).setCell ⟨w.heap.size, 4, none⟩ (.int .i64 a.n)).alloc (.cells #[.int .i64 a.g, .int .i64 a.m, .int .i64 a.s, .int .i64 a.a, .int .i64 a.n] 44)) none) := by
    have o1 : Only w w1 (fun j => w.heap.size <= j) := (Only.grown Gw1.out).mono (by simp)
    have o2 : Only w1 (((((w1.setCell ⟨w.heap.size, 0, none⟩ (.int .i64 a.g)).setCell ⟨w.heap.size, 1, none⟩ (.int .i64 a.m)).setCell ⟨w.heap.size, 2, none⟩ (.int .i64 a.s)).setCell ⟨w.heap.size, 3, none⟩ (.int .i64 a.a)).setCell ⟨w.heap.size, 4, none⟩ (.int .i64 a.n)) (fun j => j = w.heap.size) := Only.set5 w1 w.heap.size 0 (.int .i64 a.g) (.int .i64 a.m) (.int .i64 a.s) (.int .i64 a.a) (.int .i64 a.n)
    have o3 := (o1.trans (o2.mono (fun j _ e => .inl (by omega)))).trans ((Only.grown (World.grownBy_alloc (((((w1.setCell ⟨w.heap.size, 0, none⟩ (.int .i64 a.g)).setCell ⟨w.heap.size, 1, none⟩ (.int .i64 a.m)).setCell ⟨w.heap.size, 2, none⟩ (.int .i64 a.s)).setCell ⟨w.heap.size, 3, none⟩ (.int .i64 a.a)).setCell ⟨w.heap.size, 4, none⟩ (.int .i64 a.n)) (.cells #[.int .i64 a.g, .int .i64 a.m, .int .i64 a.s, .int .i64 a.a, .int .i64 a.n] 44) none)).mono (by simp))
    exact Hid.mk' ⟨((((((Aw1.out.put 0 (.int .i64 a.g) (by simp)).put 1 (.int .i64 a.m) (by simp)).put 2 (.int .i64 a.s) (by simp)).put 3 (.int .i64 a.a) (by simp)).put 4 (.int .i64 a.n) (by simp)).alloc (.cells #[.int .i64 a.g, .int .i64 a.m, .int .i64 a.s, .int .i64 a.a, .int .i64 a.n] 44)), o3.fresh (fun k hk e => by omega)⟩
  go_wp2_with fail
  generalize ((((((w1.setCell ⟨w.heap.size, 0, none⟩ (.int .i64 a.g)).setCell ⟨w.heap.size, 1, none⟩ (.int .i64 a.m)).setCell ⟨w.heap.size, 2, none⟩ (.int .i64 a.s)).setCell ⟨w.heap.size, 3, none⟩ (.int .i64 a.a)).setCell ⟨w.heap.size, 4, none⟩ (.int .i64 a.n)).alloc (.cells #[.int .i64 a.g, .int .i64 a.m, .int .i64 a.s, .int .i64 a.a, .int .i64 a.n] 44)) = w2 at P ⊢
  have A2 := Hid.mk' P.out.1
  have G2 := Hid.mk' P.out.2
  clear n0 n1 n2 n3 n4 nf nlt nne nne' P
  have cw2 := (H.out.at_.grown G2.out).c 0 _ rfl
  rw [rounds_succ]
  go_wp2_with fail
  refine Calls.mono (C1.out _ G2.out) ?_
  rintro e w3 ⟨rfl, g1⟩
  have Gw3 := Hid.mk' (G2.out.trans g1)
  have Aw3 : Hid (At w3 w.heap.size [.int .i64 a.g, .int .i64 a.m, .int .i64 a.s, .int .i64 a.a, .int .i64 a.n, .int .i64 0, .int .i64 0, .int .i64 0, .int .i64 0, .int .i64 0]) := Hid.mk' (A2.out.grown g1)
  clear g1
  have n0 := Aw3.out.c 5 _ rfl
  have n1 := Aw3.out.c 6 _ rfl
  have n2 := Aw3.out.c 7 _ rfl
  have n3 := Aw3.out.c 8 _ rfl
  have n4 := Aw3.out.c 9 _ rfl
  have nf := Aw3.out.f
  have nlt := Aw3.out.lt
  have nne : ¬ w.heap.size = w3.heap.size := by omega
  have nne' : ¬ w3.heap.size = w.heap.size := by omega
  have P : Hid (At ((((((w3.setCell ⟨w.heap.size, 5, none⟩ (.int .i64 b.g)).setCell ⟨w.heap.size, 6, none⟩ (.int .i64 b.m)).setCell ⟨w.heap.size, 7, none⟩ (.int .i64 b.s)).setCell ⟨w.heap.size, 8, none⟩ (.int .i64 b.a)).setCell ⟨w.heap.size, 9, none⟩ (.int .i64 b.n)).alloc (.cells #[.int .i64 b.g, .int .i64 b.m, .int .i64 b.s, .int .i64 b.a, .int .i64 b.n] 44)) w.heap.size [.int .i64 a.g, .int .i64 a.m, .int .i64 a.s, .int .i64 a.a, .int .i64 a.n, .int .i64 b.g, .int .i64 b.m, .int .i64 b.s, .int .i64 b.a, .int .i64 b.n] /\ w.grownBy ((((((w3.setCell ⟨w.heap.size, 5, none⟩ (.int .i64 b.g)).setCell ⟨w.heap.size, 6, none⟩ (.int .i64 b.m)).setCell ⟨w.heap.size, 7, none⟩ (.int .i64 b.s)).setCell ⟨w.heap.size, 8, none⟩ (.int .i64 b.a)).setCell ⟨w.heap.size, 9, none⟩ (.int .i64 b.n)).alloc (.cells #[.int .i64 b.g, .int .i64 b.m, .int .i64 b.s, .int .i64 b.a, .int .i64 b.n] 44)) none) := by
    have o1 : Only w w3 (fun j => w.heap.size <= j) := (Only.grown Gw3.out).mono (by simp)
    have o2 : Only w3 (((((w3.setCell ⟨w.heap.size, 5, none⟩ (.int .i64 b.g)).setCell ⟨w.heap.size, 6, none⟩ (.int .i64 b.m)).setCell ⟨w.heap.size, 7, none⟩ (.int .i64 b.s)).setCell ⟨w.heap.size, 8, none⟩ (.int .i64 b.a)).setCell ⟨w.heap.size, 9, none⟩ (.int .i64 b.n)) (fun j => j = w.heap.size) := Only.set5 w3 w.heap.size 5 (.int .i64 b.g) (.int .i64 b.m) (.int .i64 b.s) (.int .i64 b.a) (.int .i64 b.n)
    have o3 := (o1.trans (o2.mono (fun j _ e => .inl (by omega)))).trans ((Only.grown (World.grownBy_alloc (((((w3.setCell ⟨w.heap.size, 5, none⟩ (.int .i64 b.g)).setCell ⟨w.heap.size, 6, none⟩ (.int .i64 b.m)).setCell ⟨w.heap.size, 7, none⟩ (.int .i64 b.s)).setCell ⟨w.heap.size, 8, none⟩ (.int .i64 b.a)).setCell ⟨w.heap.size, 9, none⟩ (.int .i64 b.n)) (.cells #[.int .i64 b.g, .int .i64 b.m, .int .i64 b.s, .int .i64 b.a, .int .i64 b.n] 44) none)).mono (by simp))
    exact Hid.mk' ⟨((((((Aw3.out.put 5 (.int .i64 b.g) (by simp)).put 6 (.int .i64 b.m) (by simp)).put 7 (.int .i64 b.s) (by simp)).put 8 (.int .i64 b.a) (by simp)).put 9 (.int .i64 b.n) (by simp)).alloc (.cells #[.int .i64 b.g, .int .i64 b.m, .int .i64 b.s, .int .i64 b.a, .int .i64 b.n] 44)), o3.fresh (fun k hk e => by omega)⟩
  go_wp2_with fail
  generalize ((((((w3.setCell ⟨w.heap.size, 5, none⟩ (.int .i64 b.g)).setCell ⟨w.heap.size, 6, none⟩ (.int .i64 b.m)).setCell ⟨w.heap.size, 7, none⟩ (.int .i64 b.s)).setCell ⟨w.heap.size, 8, none⟩ (.int .i64 b.a)).setCell ⟨w.heap.size, 9, none⟩ (.int .i64 b.n)).alloc (.cells #[.int .i64 b.g, .int .i64 b.m, .int .i64 b.s, .int .i64 b.a, .int .i64 b.n] 44)) = w4 at P ⊢
  have A4 := Hid.mk' P.out.1
  have G4 := Hid.mk' P.out.2
  clear n0 n1 n2 n3 n4 nf nlt nne nne' P
  have cw4 := (H.out.at_.grown G4.out).c 0 _ rfl
  rw [rounds_succ]
  go_wp2_with fail
  refine wp_loop_rounds 3 ?_
  rw [rounds_succ]
  go_wp2_with fail
  obtain ⟨nX0, hX0⟩ : ∃ n, X0.length = n := ⟨_, rfl⟩
  obtain ⟨nY0, hY0⟩ : ∃ n, Y0.length = n := ⟨_, rfl⟩
  rw [hX0, hY0] at l0
  have HX0 := Hid.mk' hX0
  have HY0 := Hid.mk' hY0
  clear hX0 hY0
  obtain ⟨nX1, hX1⟩ : ∃ n, X1.length = n := ⟨_, rfl⟩
  obtain ⟨nY1, hY1⟩ : ∃ n, Y1.length = n := ⟨_, rfl⟩
  rw [hX1, hY1] at l1
  have HX1 := Hid.mk' hX1
  have HY1 := Hid.mk' hY1
  clear hX1 hY1
  have ON0 : Hid (OwnD w4.heap.size w4 (.slice none 0 0) []) := Hid.mk' (OwnD.nil _ _)
  have AS0 := A4
  have HZ0 : Hid (w.heap.size < w4.heap.size /\ w4.heap.size <= w4.heap.size) := Hid.mk' ⟨A4.out.lt, Nat.le_refl _⟩
  have HA0 : Hid (([] : List Dd).length <= 10000 /\ X0.length <= 1000 /\ Y0.length <= 1000) := Hid.mk' (by have := HX0.out; have := HY0.out; simp only [List.length_nil]; omega)
  refine Calls.mono (CW0.out _ G4.out) ?_
  rintro e wa0 ⟨va0, rfl, oa0, _, ga0⟩
  obtain ⟨aa0, ca0, hva0, hxa0⟩ := itm_at oa0
  rw [HX0.out] at hva0
  subst hva0
  have XI0 := Hid.mk' hxa0
  have GA0 := Hid.mk' ga0
  have cA0 := (H.out.at_.grown (G4.out.trans ga0)).c 0 _ rfl
  clear oa0 hxa0 ga0
  go_wp2_with fail
  refine Calls.mono (CO0.out _ (G4.out.trans GA0.out)) ?_
  rintro e wb0 ⟨vb0, rfl, ob0, _, gb0⟩
  obtain ⟨ab0, cb0, hvb0, hxb0⟩ := ent_at ob0
  rw [HY0.out] at hvb0
  subst hvb0
  have YI0 := Hid.mk' hxb0
  have GB0 := Hid.mk' gb0
  have ZZ0 : Hid (w4.heap.size <= wa0.heap.size /\ wa0.heap.size <= wb0.heap.size) := Hid.mk' ⟨GA0.out.size, gb0.size⟩
  have OS0 : Hid (OF w4 w4 wb0 wb0 (.slice none 0 0) ([] : List Dd)) := Hid.mk' (OF.start ON0.out (GA0.out.trans gb0))
  clear ob0 hxb0 gb0 cA0
  go_wp2_with fail
  go_loopw [4, 14] (fun u f wr => ∃ k : Nat, k <= nX0 /\ f = .int .i64 k /\ OF w4 w4 wb0 wr u (([] : List Dd) ++ (X0.take k).map It.dd)) (fun _ f _ => nX0 - (intOf f).toNat)
  case atStart => exact ⟨0, by omega, rfl, by simpa using OS0.out⟩
  case round =>
    clear OS0
    obtain ⟨k, hk, rfl, of⟩ := hrel
    have OW := Hid.mk' of
    clear of
    by_cases hlt : k < nX0
    · have hkl : k < X0.length := by rw [HX0.out]; exact hlt
      obtain ⟨g, rfl, hg1, hg2, hc⟩ := XI0.out (by omega)
      have i0 := OW.out.on.cell (GB0.out.cell (hc k hkl).1 (by simp)) (by have := ZZ0.out; show ¬ ((w4.heap.size <= g /\ g < w4.heap.size) ∨ wb0.heap.size <= g); omega)
      have i1 := OW.out.on.cell (GB0.out.cell (hc k hkl).2 (by simp)) (by have := ZZ0.out; show ¬ ((w4.heap.size <= g /\ g < w4.heap.size) ∨ wb0.heap.size <= g); omega)
      have ln : Hid ((([] : List Dd) ++ (X0.take k).map It.dd).length + 1 <= 3000000) := Hid.mk' (by have := HA0.out; simp only [List.length_append, List.length_map, List.length_take]; omega)
      have hB : Hid (w4.heap.size <= wr.heap.size) := Hid.mk' (by have := OW.out.on.size; have := ZZ0.out; have := HZ0.out; omega)
      obtain ⟨x, hx⟩ : ∃ x, X0[k] = x := ⟨_, rfl⟩
      rw [hx] at i0 i1
      have tk : Hid (X0.take (k + 1) = X0.take k ++ [x]) := Hid.mk' (by rw [List.take_succ_eq_append_getElem hkl, hx])
      have y0 : (0 : Int) <= (k : Int) := by omega
      have y1 : (k : Int) < (nX0 : Int) := by omega
      clear hc hx
      obtain ⟨ac, hac⟩ : ∃ ac, ([] : List Dd) ++ (X0.take k).map It.dd = ac := ⟨_, rfl⟩
      rw [hac] at OW ln
      have HAC := Hid.mk' hac
      clear hac
      go_wp2_with (at_builtin; refine wp_appD rfl _ _ rfl w4.heap.size u4 ac rfl (World.ownsRow.alloc OW.out.ow _) ⟨wr.heap.size, 0, none⟩ x.dd rfl (cells_new wr x.dd.cells _ _ rfl) ln.out (by have := hB.out; simp; omega) ?c4)
      case c4 =>
        intro v' w' o' g' h'
        have ON := Hid.mk' ((OW.out.grown (World.grownBy_alloc wr _ none)).app o' g' (by simpa using h'))
        clear o' g' h'
        go_wp2
        refine ⟨⟨k + 1, by omega, by go_num, ?_⟩, by simp [intOf]; omega⟩
        rw [tk.out, List.map_append, <- List.append_assoc, HAC.out]
        exact ON.out
    · obtain rfl : k = nX0 := by omega
      have y1 : ¬ (k : Int) < (k : Int) := by omega
      have OT0 : Hid (OF w4 w4 wb0 wr u4 (([] : List Dd) ++ X0.map It.dd)) := Hid.mk' (by have := OW.out; rwa [List.take_of_length_le (by rw [HX0.out]; omega)] at this)
      clear OW
      go_wp2_with fail
      go_loopw [4, 15] (fun u f wr => ∃ q : Nat, q <= nY0 /\ f = .int .i64 q /\ OF w4 w4 wb0 wr u ((([] : List Dd) ++ X0.map It.dd) ++ ((Y0.take q).filter (fun e => decide (b.n < e.sq))).map (fun e => e.it.dd))) (fun _ f _ => nY0 - (intOf f).toNat)
      case atStart => exact ⟨0, by omega, rfl, by simpa using OT0.out⟩
      case round =>
        clear OT0
        obtain ⟨q, hq, rfl, of⟩ := hrel
        have OW := Hid.mk' of
        clear of
        by_cases hlt : q < nY0
        · have hql : q < Y0.length := by rw [HY0.out]; exact hlt
          obtain ⟨g, rfl, hg1, hg2, hc⟩ := YI0.out (by omega)
          have i0 := OW.out.on.cell (hc q hql).1 (by have := ZZ0.out; show ¬ ((w4.heap.size <= g /\ g < w4.heap.size) ∨ wb0.heap.size <= g); omega)
          have i1 := OW.out.on.cell (hc q hql).2.1 (by have := ZZ0.out; show ¬ ((w4.heap.size <= g /\ g < w4.heap.size) ∨ wb0.heap.size <= g); omega)
          have i2 := OW.out.on.cell (hc q hql).2.2 (by have := ZZ0.out; show ¬ ((w4.heap.size <= g /\ g < w4.heap.size) ∨ wb0.heap.size <= g); omega)
          have iN := OW.out.on.cell ((GA0.out.trans GB0.out).cell (AS0.out.c 9 _ rfl) (by simp)) (by have := ZZ0.out; have := HZ0.out; show ¬ ((w4.heap.size <= w.heap.size /\ w.heap.size < w4.heap.size) ∨ wb0.heap.size <= w.heap.size); omega)
          obtain ⟨x, hx⟩ : ∃ x, Y0[q] = x := ⟨_, rfl⟩
          rw [hx] at i0 i1 i2
          have tk : Hid (Y0.take (q + 1) = Y0.take q ++ [x]) := Hid.mk' (by rw [List.take_succ_eq_append_getElem hql, hx])
          have y0 : (0 : Int) <= (q : Int) := by omega
          have y1 : (q : Int) < (nY0 : Int) := by omega
          clear hc hx
          by_cases sn : b.n < x.sq
          · have sd : decide (b.n < x.sq) = true := decide_eq_true sn
            have ln : Hid (((([] : List Dd) ++ X0.map It.dd) ++ ((Y0.take q).filter (fun e => decide (b.n < e.sq))).map (fun e => e.it.dd)).length + 1 <= 3000000) := Hid.mk' (by have := HA0.out; have := List.length_filter_le (fun e => decide (b.n < e.sq)) (Y0.take q); simp only [List.length_append, List.length_map, List.length_take] at *; omega)
            have hB : Hid (w4.heap.size <= wr.heap.size) := Hid.mk' (by have := OW.out.on.size; have := ZZ0.out; have := HZ0.out; omega)
            obtain ⟨ac, hac⟩ : ∃ ac, (([] : List Dd) ++ X0.map It.dd) ++ ((Y0.take q).filter (fun e => decide (b.n < e.sq))).map (fun e => e.it.dd) = ac := ⟨_, rfl⟩
            rw [hac] at OW ln
            have HAC := Hid.mk' hac
            clear hac
            go_wp2_with fail
            go_quiet (fail)
            have OX : Hid (OF w4 w4 wb0 (wr.drewN nq) u4 ac) := Hid.mk' (OW.out.grown (grownBy_drewN (grownBy_refl _ _) nq))
            have ZD : Hid (w4.heap.size <= (wr.drewN nq).heap.size) := Hid.mk' hB.out
            go_wp2_with (at_builtin; refine wp_appD rfl _ _ rfl w4.heap.size u4 ac rfl (World.ownsRow.alloc OX.out.ow _) ⟨wr.heap.size, 0, none⟩ x.it.dd rfl (cells_new (wr.drewN nq) x.it.dd.cells _ _ rfl) ln.out (by have := ZD.out; simp at *; omega) ?c4)
            case c4 =>
              intro v' w' o' g' h'
              have ON := Hid.mk' ((OX.out.grown (World.grownBy_alloc _ _ none)).app o' g' (by simpa using h'))
              clear o' g' h'
              go_wp2
              refine ⟨⟨q + 1, by omega, by go_num, ?_⟩, by simp [intOf]; omega⟩
              rw [tk.out, List.filter_append, List.filter_cons_of_pos (by simpa using sn), List.filter_nil, List.map_append, <- List.append_assoc, HAC.out]
              exact ON.out
          · have sd : decide (b.n < x.sq) = false := decide_eq_false sn
            go_wp2_with fail
            go_quiet (fail)
            go_wp2
            refine ⟨⟨q + 1, by omega, by go_num, ?_⟩, by simp [intOf]; omega⟩
            rw [tk.out, List.filter_append, List.filter_cons_of_neg (by simpa using sn), List.filter_nil, List.append_nil]
            exact OW.out.grown (grownBy_drewN (grownBy_refl _ _) nq)
        · obtain rfl : q = nY0 := by omega
          have y1 : ¬ (q : Int) < (q : Int) := by omega
          have OV0 : Hid (OF w4 w4 wb0 wr u4 ((([] : List Dd) ++ X0.map It.dd) ++ (Y0.filter (fun e => decide (b.n < e.sq))).map (fun e => e.it.dd))) := Hid.mk' (by have := OW.out; rwa [List.take_of_length_le (by rw [HY0.out]; omega)] at this)
          clear OW
          obtain ⟨ws1, rfl⟩ : ∃ W, W = wr := ⟨_, rfl⟩
          obtain ⟨uu1, rfl⟩ : ∃ U, U = u4 := ⟨_, rfl⟩
          have GS1 : Hid (w.grownBy ws1 none) := Hid.mk' ((((Only.grown ((G4.out.trans GA0.out).trans GB0.out)).mono (A' := fun j => w.heap.size <= j) (by simp)).trans (OV0.out.on.mono (fun j _ e => by have := HZ0.out; have := ZZ0.out; omega))).fresh (fun k hk e => by omega))
          have AS1 : Hid (At ws1 w.heap.size [.int .i64 a.g, .int .i64 a.m, .int .i64 a.s, .int .i64 a.a, .int .i64 a.n, .int .i64 b.g, .int .i64 b.m, .int .i64 b.s, .int .i64 b.a, .int .i64 b.n]) := Hid.mk' ((AS0.out.grown (GA0.out.trans GB0.out)).only OV0.out.on (by have := HZ0.out; have := ZZ0.out; omega))
          have HZ1 : Hid (w.heap.size < w4.heap.size /\ w4.heap.size <= ws1.heap.size) := Hid.mk' (by have := OV0.out.on.size; have := HZ0.out; have := ZZ0.out; omega)
          have c1 := (H.out.at_.grown GS1.out).c 0 _ rfl
          have ON1 := Hid.mk' OV0.out.ow
          obtain ⟨AC, hAC⟩ : ∃ AC, ((([] : List Dd) ++ X0.map It.dd) ++ (Y0.filter (fun e => decide (b.n < e.sq))).map (fun e => e.it.dd)) = AC := ⟨_, rfl⟩
          rw [hAC] at ON1
          have HAC := Hid.mk' hAC
          have HA1 : Hid (AC.length <= 10000 /\ X1.length <= 1000 /\ Y1.length <= 1000) := Hid.mk' (by rw [<- hAC]; have := HX1.out; have := HY1.out; have := HA0.out; have := List.length_filter_le (fun e => decide (b.n < e.sq)) Y0; simp only [List.length_append, List.length_map, List.length_nil] at *; omega)
          clear hAC OV0 CW0 CO0 C0 C1 XI0 YI0
          go_wp2_with fail
          rw [rounds_succ]
          go_wp2_with fail
          refine Calls.mono (CW1.out _ GS1.out) ?_
          rintro e wa1 ⟨va1, rfl, oa1, _, ga1⟩
          obtain ⟨aa1, ca1, hva1, hxa1⟩ := itm_at oa1
          rw [HX1.out] at hva1
          subst hva1
          have XI1 := Hid.mk' hxa1
          have GA1 := Hid.mk' ga1
          have cA1 := (H.out.at_.grown (GS1.out.trans ga1)).c 0 _ rfl
          clear oa1 hxa1 ga1
          go_wp2_with fail
          refine Calls.mono (CO1.out _ (GS1.out.trans GA1.out)) ?_
          rintro e wb1 ⟨vb1, rfl, ob1, _, gb1⟩
          obtain ⟨ab1, cb1, hvb1, hxb1⟩ := ent_at ob1
          rw [HY1.out] at hvb1
          subst hvb1
          have YI1 := Hid.mk' hxb1
          have GB1 := Hid.mk' gb1
          have ZZ1 : Hid (ws1.heap.size <= wa1.heap.size /\ wa1.heap.size <= wb1.heap.size) := Hid.mk' ⟨GA1.out.size, gb1.size⟩
          have OS1 : Hid (OF w4 ws1 wb1 wb1 uu1 AC) := Hid.mk' (OF.start ON1.out (GA1.out.trans gb1))
          clear ob1 hxb1 gb1 cA1
          go_wp2_with fail
          go_loopw [4, 14] (fun u f wr => ∃ k : Nat, k <= nX1 /\ f = .int .i64 k /\ OF w4 ws1 wb1 wr u (AC ++ (X1.take k).map It.dd)) (fun _ f _ => nX1 - (intOf f).toNat)
          case atStart => exact ⟨0, by omega, rfl, by simpa using OS1.out⟩
          case round =>
            clear OS1
            obtain ⟨k, hk, rfl, of⟩ := hrel
            have OW := Hid.mk' of
            clear of
            by_cases hlt : k < nX1
            · have hkl : k < X1.length := by rw [HX1.out]; exact hlt
              obtain ⟨g, rfl, hg1, hg2, hc⟩ := XI1.out (by omega)
              have i0 := OW.out.on.cell (GB1.out.cell (hc k hkl).1 (by simp)) (by have := ZZ1.out; show ¬ ((w4.heap.size <= g /\ g < ws1.heap.size) ∨ wb1.heap.size <= g); omega)
              have i1 := OW.out.on.cell (GB1.out.cell (hc k hkl).2 (by simp)) (by have := ZZ1.out; show ¬ ((w4.heap.size <= g /\ g < ws1.heap.size) ∨ wb1.heap.size <= g); omega)
              have ln : Hid ((AC ++ (X1.take k).map It.dd).length + 1 <= 3000000) := Hid.mk' (by have := HA1.out; simp only [List.length_append, List.length_map, List.length_take]; omega)
              have hB : Hid (w4.heap.size <= wr.heap.size) := Hid.mk' (by have := OW.out.on.size; have := ZZ1.out; have := HZ1.out; omega)
              obtain ⟨x, hx⟩ : ∃ x, X1[k] = x := ⟨_, rfl⟩
              rw [hx] at i0 i1
              have tk : Hid (X1.take (k + 1) = X1.take k ++ [x]) := Hid.mk' (by rw [List.take_succ_eq_append_getElem hkl, hx])
              have y0 : (0 : Int) <= (k : Int) := by omega
              have y1 : (k : Int) < (nX1 : Int) := by omega
              clear hc hx
              obtain ⟨ac, hac⟩ : ∃ ac, AC ++ (X1.take k).map It.dd = ac := ⟨_, rfl⟩
              rw [hac] at OW ln
              have HAC := Hid.mk' hac
              clear hac
              go_wp2_with (at_builtin; refine wp_appD rfl _ _ rfl w4.heap.size u4 ac rfl (World.ownsRow.alloc OW.out.ow _) ⟨wr.heap.size, 0, none⟩ x.dd rfl (cells_new wr x.dd.cells _ _ rfl) ln.out (by have := hB.out; simp; omega) ?c4)
              case c4 =>
                intro v' w' o' g' h'
                have ON := Hid.mk' ((OW.out.grown (World.grownBy_alloc wr _ none)).app o' g' (by simpa using h'))
                clear o' g' h'
                go_wp2
                refine ⟨⟨k + 1, by omega, by go_num, ?_⟩, by simp [intOf]; omega⟩
                rw [tk.out, List.map_append, <- List.append_assoc, HAC.out]
                exact ON.out
            · obtain rfl : k = nX1 := by omega
              have y1 : ¬ (k : Int) < (k : Int) := by omega
              have OT1 : Hid (OF w4 ws1 wb1 wr u4 (AC ++ X1.map It.dd)) := Hid.mk' (by have := OW.out; rwa [List.take_of_length_le (by rw [HX1.out]; omega)] at this)
              clear OW
              go_wp2_with fail
              go_loopw [4, 15] (fun u f wr => ∃ q : Nat, q <= nY1 /\ f = .int .i64 q /\ OF w4 ws1 wb1 wr u ((AC ++ X1.map It.dd) ++ ((Y1.take q).filter (fun e => decide (a.n < e.sq))).map (fun e => e.it.dd))) (fun _ f _ => nY1 - (intOf f).toNat)
              case atStart => exact ⟨0, by omega, rfl, by simpa using OT1.out⟩
              case round =>
                clear OT1
                obtain ⟨q, hq, rfl, of⟩ := hrel
                have OW := Hid.mk' of
                clear of
                by_cases hlt : q < nY1
                · have hql : q < Y1.length := by rw [HY1.out]; exact hlt
                  obtain ⟨g, rfl, hg1, hg2, hc⟩ := YI1.out (by omega)
                  have i0 := OW.out.on.cell (hc q hql).1 (by have := ZZ1.out; show ¬ ((w4.heap.size <= g /\ g < ws1.heap.size) ∨ wb1.heap.size <= g); omega)
                  have i1 := OW.out.on.cell (hc q hql).2.1 (by have := ZZ1.out; show ¬ ((w4.heap.size <= g /\ g < ws1.heap.size) ∨ wb1.heap.size <= g); omega)
                  have i2 := OW.out.on.cell (hc q hql).2.2 (by have := ZZ1.out; show ¬ ((w4.heap.size <= g /\ g < ws1.heap.size) ∨ wb1.heap.size <= g); omega)
                  have iN := OW.out.on.cell ((GA1.out.trans GB1.out).cell (AS1.out.c 4 _ rfl) (by simp)) (by have := ZZ1.out; have := HZ1.out; show ¬ ((w4.heap.size <= w.heap.size /\ w.heap.size < ws1.heap.size) ∨ wb1.heap.size <= w.heap.size); omega)
                  obtain ⟨x, hx⟩ : ∃ x, Y1[q] = x := ⟨_, rfl⟩
                  rw [hx] at i0 i1 i2
                  have tk : Hid (Y1.take (q + 1) = Y1.take q ++ [x]) := Hid.mk' (by rw [List.take_succ_eq_append_getElem hql, hx])
                  have y0 : (0 : Int) <= (q : Int) := by omega
                  have y1 : (q : Int) < (nY1 : Int) := by omega
                  clear hc hx
                  by_cases sn : a.n < x.sq
                  · have sd : decide (a.n < x.sq) = true := decide_eq_true sn
                    have ln : Hid (((AC ++ X1.map It.dd) ++ ((Y1.take q).filter (fun e => decide (a.n < e.sq))).map (fun e => e.it.dd)).length + 1 <= 3000000) := Hid.mk' (by have := HA1.out; have := List.length_filter_le (fun e => decide (a.n < e.sq)) (Y1.take q); simp only [List.length_append, List.length_map, List.length_take] at *; omega)
                    have hB : Hid (w4.heap.size <= wr.heap.size) := Hid.mk' (by have := OW.out.on.size; have := ZZ1.out; have := HZ1.out; omega)
                    obtain ⟨ac, hac⟩ : ∃ ac, (AC ++ X1.map It.dd) ++ ((Y1.take q).filter (fun e => decide (a.n < e.sq))).map (fun e => e.it.dd) = ac := ⟨_, rfl⟩
                    rw [hac] at OW ln
                    have HAC := Hid.mk' hac
                    clear hac
                    go_wp2_with fail
                    go_quiet (fail)
                    have OX : Hid (OF w4 ws1 wb1 (wr.drewN nq) u4 ac) := Hid.mk' (OW.out.grown (grownBy_drewN (grownBy_refl _ _) nq))
                    have ZD : Hid (w4.heap.size <= (wr.drewN nq).heap.size) := Hid.mk' hB.out
                    go_wp2_with (at_builtin; refine wp_appD rfl _ _ rfl w4.heap.size u4 ac rfl (World.ownsRow.alloc OX.out.ow _) ⟨wr.heap.size, 0, none⟩ x.it.dd rfl (cells_new (wr.drewN nq) x.it.dd.cells _ _ rfl) ln.out (by have := ZD.out; simp at *; omega) ?c4)
                    case c4 =>
                      intro v' w' o' g' h'
                      have ON := Hid.mk' ((OX.out.grown (World.grownBy_alloc _ _ none)).app o' g' (by simpa using h'))
                      clear o' g' h'
                      go_wp2
                      refine ⟨⟨q + 1, by omega, by go_num, ?_⟩, by simp [intOf]; omega⟩
                      rw [tk.out, List.filter_append, List.filter_cons_of_pos (by simpa using sn), List.filter_nil, List.map_append, <- List.append_assoc, HAC.out]
                      exact ON.out
                  · have sd : decide (a.n < x.sq) = false := decide_eq_false sn
                    go_wp2_with fail
                    go_quiet (fail)
                    go_wp2
                    refine ⟨⟨q + 1, by omega, by go_num, ?_⟩, by simp [intOf]; omega⟩
                    rw [tk.out, List.filter_append, List.filter_cons_of_neg (by simpa using sn), List.filter_nil, List.append_nil]
                    exact OW.out.grown (grownBy_drewN (grownBy_refl _ _) nq)
                · obtain rfl : q = nY1 := by omega
                  have y1 : ¬ (q : Int) < (q : Int) := by omega
                  have OV1 : Hid (OF w4 ws1 wb1 wr u4 ((AC ++ X1.map It.dd) ++ (Y1.filter (fun e => decide (a.n < e.sq))).map (fun e => e.it.dd))) := Hid.mk' (by have := OW.out; rwa [List.take_of_length_le (by rw [HY1.out]; omega)] at this)
                  clear OW
                  have GE : Hid (w.grownBy wr none) := Hid.mk' ((((Only.grown ((GS1.out.trans GA1.out).trans GB1.out)).mono (A' := fun j => w.heap.size <= j) (by simp)).trans (OV1.out.on.mono (fun j _ e => by have := HZ1.out; have := ZZ1.out; omega))).fresh (fun k hk e => by omega))
                  have OE : Hid (OwnD w.heap.size wr u4 ((AC ++ X1.map It.dd) ++ (Y1.filter (fun e => decide (a.n < e.sq))).map (fun e => e.it.dd))) := Hid.mk' (ownD_low OV1.out.ow (by have := HZ1.out; omega))
                  rw [<- HAC.out] at OE
                  clear OV1
                  go_wp2_with fail
                  rw [rounds_succ]
                  go_wp2
                  refine bodyPost_ret (v := .tuple #[u4, .bool true]) (by simp [results, Tryz.results26, go_sem]) rfl ⟨_, rfl, ?_, GE.out⟩
                  have := OE.out
                  simpa [List.append_assoc] using this
def KQ (w : World) (bk bp : Nat) (wr : World) (k : Kp) (p : Pr) : Prop :=
  ∃ vk D, KX wr bk bp vk D k p /\ PGd p /\ (∀ j, kF bk vk D j -> w.heap.size <= j) /\ Only w wr (fun j => w.heap.size <= j)
section
variable {w wr w' : World} {bk bp : Nat} {k k' : Kp} {p q : Pr}
theorem KQ.gd (h : KQ w bk bp wr k p) : PGd p := by obtain ⟨_, _, _, h, _⟩ := h; exact h
theorem KQ.only (h : KQ w bk bp wr k p) : Only w wr (fun j => w.heap.size <= j) := by obtain ⟨_, _, _, _, _, h⟩ := h; exact h
theorem KQ.c0 (h : KQ w bk bp wr k p) : wr.cell? ⟨bk, 0, none⟩ = some (.pointer (some ⟨bp, 0, none⟩)) := by obtain ⟨_, _, h, _⟩ := h; exact h.at_.c 0 _ rfl
theorem KQ.lt (h : KQ w bk bp wr k p) : bk < wr.heap.size := by obtain ⟨_, _, h, _⟩ := h; exact h.at_.lt
theorem KQ.grown (h : KQ w bk bp wr k p) (g : wr.grownBy w' none) : KQ w bk bp w' k p := by
  obtain ⟨vk, D, hx, gd, hF, ho⟩ := h
  exact ⟨vk, D, hx.grown g, gd, hF, ho.trans ((Only.grown g).mono (by simp))⟩
theorem KQ.turn {vk : Value} {D : Nat -> Prop} (hx : KX wr bk bp vk D k p) (gd : PGd q) (hF : ∀ j, kF bk vk D j -> w.heap.size <= j) (ho : Only w wr (fun j => w.heap.size <= j)) (n : PN wr w' bp D q) : KQ w bk bp w' k q := by
  obtain ⟨x, s⟩ := hx.turnX n
  refine ⟨vk, _, x, gd, fun j hj => ?_, ho.trans (s.2.mono (fun j _ hj => .inl (hF j hj)))⟩
  rcases s.1 j hj with e | e
  · exact hF j e
  · exact Nat.le_trans ho.size e
theorem KQ.kn {vk : Value} {D : Nat -> Prop} (gd : PGd q) (hF : ∀ j, kF bk vk D j -> w.heap.size <= j) (ho : Only w wr (fun j => w.heap.size <= j)) (n : KN wr w' bk bp vk D k' q) : KQ w bk bp w' k' q := by
  obtain ⟨vk', D', x, s1, s2⟩ := n
  refine ⟨vk', D', x, gd, fun j hj => ?_, ho.trans (s2.mono (fun j _ hj => .inl (hF j hj)))⟩
  rcases s1 j hj with e | e
  · exact hF j e
  · exact Nat.le_trans ho.size e
theorem KQ.world (h : KQ w bk bp wr k p) (i : Int) : Calls Tryz.prog 14 #[.pointer (some ⟨bp, 0, none⟩), .int .i64 i] wr fun e w' => ∃ v, e = .returned (.tuple #[v, .int .i64 (p.upE i)]) /\ OwnI wr.heap.size w' v (p.world i) /\ wr.grownBy w' none := by
  obtain ⟨vk, D, hx, gd, _⟩ := h
  refine (world_px hx.pw gd i).mono ?_
  rintro e w' ⟨v, rfl, ho, _, g⟩
  exact ⟨v, rfl, ho, g⟩
theorem KQ.outbox (h : KQ w bk bp wr k p) (i : Int) : Calls Tryz.prog 15 #[.pointer (some ⟨bp, 0, none⟩), .int .i64 i] wr fun e w' => ∃ v, e = .returned (.tuple #[v, .int .i64 (p.upE i)]) /\ OwnE wr.heap.size w' v (p.outbox i) /\ wr.grownBy w' none := by
  obtain ⟨vk, D, hx, gd, _⟩ := h
  refine (outbox_px hx.pw gd i).mono ?_
  rintro e w' ⟨v, rfl, ho, _, g⟩
  exact ⟨v, rfl, ho, g⟩
theorem KQ.marks (h : KQ w bk bp wr k p) (i : Int) : Calls Tryz.prog 16 #[.pointer (some ⟨bp, 0, none⟩), .int .i64 i] wr fun e w' => e = .returned (.tuple #[mkV (p.marks i), .int .i64 (p.upE i)]) /\ wr.grownBy w' none := by
  obtain ⟨vk, D, hx, gd, _⟩ := h
  exact marks_px hx.pw i
theorem KQ.crash (h : KQ w bk bp wr k p) (i n : Int) : Calls Tryz.prog 18 #[.pointer (some ⟨bp, 0, none⟩), .int .i64 i, .int .i64 n] wr fun e w' => e = .returned (.int .i64 (p.crash i n).1) /\ KQ w bk bp w' k (p.crash i n).2 := by
  obtain ⟨vk, D, hx, gd, hF, ho⟩ := h
  refine (crash_px hx.pw i n).mono ?_
  rintro e w' ⟨rfl, pn⟩
  exact ⟨rfl, KQ.turn hx (crash_keep gd i n).gd hF ho pn⟩
theorem KQ.restart (h : KQ w bk bp wr k p) (i : Int) : Calls Tryz.prog 17 #[.pointer (some ⟨bp, 0, none⟩), .int .i64 i] wr fun e w' => e = .returned (.int .i64 (p.restart i).1) /\ KQ w bk bp w' k (p.restart i).2 := by
  obtain ⟨vk, D, hx, gd, hF, ho⟩ := h
  refine (restart_px hx.pw gd i).mono ?_
  rintro e w' ⟨rfl, pn⟩
  exact ⟨rfl, KQ.turn hx (restart_keep gd i).gd hF ho pn⟩
theorem KQ.tick (h : KQ w bk bp wr k p) (i : Int) : Calls Tryz.prog 33 #[.pointer (some ⟨bp, 0, none⟩), .int .i64 i] wr fun e w' => e = .returned (.int .i64 (p.tick i).1) /\ KQ w bk bp w' k (p.tick i).2 := by
  obtain ⟨vk, D, hx, gd, hF, ho⟩ := h
  refine (tick_px hx.pw gd i).mono ?_
  rintro e w' ⟨rfl, pn⟩
  exact ⟨rfl, KQ.turn hx (tick_keep gd i).gd hF ho pn⟩
theorem KQ.snap (h : KQ w bk bp wr k p) (i : Int) : Calls Tryz.prog 28 #[.pointer (some ⟨bp, 0, none⟩), .int .i64 i] wr fun e w' => e = .returned (.int .i64 (p.snap i).1) /\ KQ w bk bp w' k (p.snap i).2 := by
  obtain ⟨vk, D, hx, gd, hF, ho⟩ := h
  refine (snap_px hx.pw gd i).mono ?_
  rintro e w' ⟨rfl, pn⟩
  exact ⟨rfl, KQ.turn hx (snap_keep gd i).gd hF ho pn⟩
theorem KQ.send (h : KQ w bk bp wr k p) (i : Int) : Calls Tryz.prog 29 #[.pointer (some ⟨bp, 0, none⟩), .int .i64 i] wr fun e w' => e = .returned (.int .i64 (p.send i).1) /\ KQ w bk bp w' k (p.send i).2 := by
  obtain ⟨vk, D, hx, gd, hF, ho⟩ := h
  refine (send_px hx.pw gd i).mono ?_
  rintro e w' ⟨rfl, pn⟩
  exact ⟨rfl, KQ.turn hx (send_keep gd i).gd hF ho pn⟩
theorem KQ.deliver (h : KQ w bk bp wr k p) (i n : Int) : Calls Tryz.prog 30 #[.pointer (some ⟨bp, 0, none⟩), .int .i64 i, .int .i64 n] wr fun e w' => e = .returned (.int .i64 (p.deliver i n).1) /\ KQ w bk bp w' k (p.deliver i n).2 := by
  obtain ⟨vk, D, hx, gd, hF, ho⟩ := h
  refine (deliver_px hx.pw gd i n).mono ?_
  rintro e w' ⟨rfl, pn⟩
  exact ⟨rfl, KQ.turn hx (deliver_keep gd i n).gd hF ho pn⟩
theorem KQ.brk (h : KQ w bk bp wr k p) (i n m : Int) (hk : n <= 9223372036854775807) (hm : i64B m) : Calls Tryz.prog 27 #[.pointer (some ⟨bp, 0, none⟩), .int .i64 i, .int .i64 n, .int .i64 m] wr fun e w' => e = .returned (.int .i64 (p.brk i n m).1) /\ KQ w bk bp w' k (p.brk i n m).2 := by
  obtain ⟨vk, D, hx, gd, hF, ho⟩ := h
  refine (break_px hx.pw i n m hk).mono ?_
  rintro e w' ⟨rfl, pn⟩
  exact ⟨rfl, KQ.turn hx (brk_keep gd i n m hk hm).gd hF ho pn⟩
end
theorem findK_pos {l : List Kn} {x y : Int} (h : 0 <= findK l x y) : ∃ (n : Nat) (hn : n < l.length), findK l x y = n /\ l[n].sh = x /\ l[n].nu = y := by
  unfold findK at h ⊢
  split at h
  · next n e =>
    obtain ⟨hn, h1, _⟩ := List.findIdx?_eq_some_iff_getElem.1 e
    have := of_decide_eq_true h1
    exact ⟨n, hn, rfl, this.1, this.2⟩
  · omega
def hasD (l : List Dd) (x y : Int) : Bool := l.any (fun d => decide (d.sh = x /\ d.nu = y))
theorem ownD_at {B : Nat} {w : World} {v : Value} {l : List Dd} (h : OwnD B w v l) : ∃ a c, v = .slice a l.length c /\ (0 < l.length -> ∃ g off, a = some ⟨g, off, none⟩ /\ ∀ k (hk : k < l.length), w.cell? ⟨g, off + k * 2, none⟩ = some (.int .i64 l[k].sh) /\ w.cell? ⟨g, off + k * 2 + 1, none⟩ = some (.int .i64 l[k].nu)) := by
  obtain ⟨a, c, rfl, hx⟩ := Lies.of_own h
  refine ⟨a, c, rfl, fun h0 => ?_⟩
  obtain ⟨g, off, rfl, hc⟩ := hx h0
  refine ⟨g, off, rfl, fun k hk => ?_⟩
  have d : ∀ j (hj : j < 2) u, l[k].cells[j]? = some u -> w.cell? ⟨g, off + k * 2 + j, none⟩ = some u := fun j hj u hu => by
    have := hc (2 * k + j) u (by rw [flatD_at l k j hk hj]; exact hu)
    rw [show off + (2 * k + j) = off + k * 2 + j by omega] at this
    exact this
  exact ⟨d 0 (by omega) _ rfl, d 1 (by omega) _ rfl⟩
theorem right_plain (bk bp : Nat) (vk : Value) (D : Nat -> Prop) (kp : Kp) (p : Pr) (w : World) (l : List Dd) (h : KX w bk bp vk D kp p) (h0 : p.upE 0 = 0) (h1 : p.upE 1 = 0) (hn : kp.kn.length <= 1000000) (hL : l.length <= 1000000)
    (nd : ∀ i j (hi : i < l.length) (hj : j < i), ¬ ((l[j]'(by omega)).sh = l[i].sh /\ (l[j]'(by omega)).nu = l[i].nu)) (fd : ∀ d ∈ l, 0 <= findK kp.kn d.sh d.nu) (h1' : ∀ q ∈ kp.kn, q.how = 1) (th : ∀ q ∈ kp.kn, hasD l q.sh q.nu = true)
    (rs : ∀ K : Kp, K.m0 = kp.m0 -> K.m1 = kp.m1 -> (K.rises (p.marks 0) (p.marks 1)) = (true, { K with m0 := p.marks 0, m1 := p.marks 1 }))
    (PL : ∀ W, KX W bk bp vk D kp p -> Calls Tryz.prog 26 #[.pointer (some ⟨bk, 0, none⟩)] W fun e w' => ∃ v, e = .returned (.tuple #[v, .bool true]) /\ OwnD W.heap.size w' v l /\ W.grownBy w' none) :
    Calls Tryz.prog 25 #[.pointer (some ⟨bk, 0, none⟩)] w fun e w' => e = .returned (.bool true) /\ KN w w' bk bp vk D ⟨kp.kn, false, false, p.marks 0, p.marks 1⟩ p := by
  obtain ⟨ka, kc, rfl, hK⟩ := lies_of h.ow
  have HH := Hid.mk' h
  have P1 := Hid.mk' (PL _ h)
  have ND := Hid.mk' nd
  have FD := Hid.mk' fd
  have H1 := Hid.mk' h1'
  have TH := Hid.mk' th
  have RS := Hid.mk' rs
  have UP := Hid.mk' (And.intro h0 h1)
  have CF := Hid.mk' fun W (g : w.grownBy W none) x y => findK_any kp.kn x y bk _ W ((h.grown g).at_.c 1 _ rfl) (h.grown g).ow (by omega)
  have KC := Hid.mk' hK
  obtain ⟨N, hN⟩ : ∃ N, kp.kn.length = N := ⟨_, rfl⟩
  have HN := Hid.mk' hN
  have hlt := h.at_.lt
  clear nd fd h1' th rs h0 h1 PL hK h
  rw [hN] at HH KC hn
  clear hN
  go_enter Tryz.func25, Tryz.ntmps25
  go_wp2_with fail
  refine Calls.mono P1.out ?_
  rintro e w1 ⟨v, rfl, ow, g1⟩
  obtain ⟨a, c, hv, hx⟩ := ownD_at ow
  obtain ⟨L, hl⟩ : ∃ L, l.length = L := ⟨_, rfl⟩
  rw [hl] at hv
  subst hv
  have HL := Hid.mk' hl
  have HX := Hid.mk' hx
  have G1 := Hid.mk' g1
  clear ow g1 hx
  rw [hl] at hL
  clear hl P1
  go_wp2_with fail
  go_loopw [5] (fun f wr => ∃ i : Nat, i <= L /\ f = .int .i64 i /\ w1.grownBy wr none) (fun f _ => L - (intOf f).toNat)
  case atStart => exact ⟨0, by omega, rfl, grownBy_refl _ _⟩
  case round =>
    obtain ⟨i, hi, rfl, gi⟩ := hrel
    have GI := Hid.mk' gi
    clear gi
    by_cases hlt' : i < L
    · have hil : i < l.length := by rw [HL.out]; exact hlt'
      obtain ⟨g, off, rfl, hc⟩ := HX.out (by omega)
      have HC := Hid.mk' hc
      have y0 : (0 : Int) <= (i : Int) := by omega
      have y1 : (i : Int) < (L : Int) := by omega
      obtain ⟨x, hx⟩ : ∃ x, l[i] = x := ⟨_, rfl⟩
      have HXI := Hid.mk' hx
      clear hx
      go_wp2_with fail
      go_loopw [6] (fun f wq => ∃ j : Nat, j <= i /\ f = .int .i64 j /\ w1.grownBy wq none) (fun f _ => i - (intOf f).toNat)
      case atStart => exact ⟨0, by omega, rfl, GI.out⟩
      case round =>
        obtain ⟨j, hj, rfl, gj⟩ := hrel
        have GJ := Hid.mk' gj
        have i0 := GJ.out.cell (HC.out i hil).1 (by simp)
        have i1 := GJ.out.cell (HC.out i hil).2 (by simp)
        rw [HXI.out] at i0 i1
        by_cases hji : j < i
        · have hjl : j < l.length := by omega
          have j0 := GJ.out.cell (HC.out j hjl).1 (by simp)
          have j1 := GJ.out.cell (HC.out j hjl).2 (by simp)
          have ne := ND.out i j hil hji
          rw [HXI.out] at ne
          have z0 : (0 : Int) <= (j : Int) := by omega
          have z1 : (j : Int) < (L : Int) := by omega
          have z2 : (j : Int) < (i : Int) := by omega
          by_cases e1 : l[j].sh = x.sh
          · have e2 : ¬ l[j].nu = x.nu := fun e => ne ⟨e1, e⟩
            have e2' : (l[j].nu == x.nu) = false := by simpa using e2
            rw [e1] at j0
            generalize l[j].nu = jn at j1 e2'
            clear ne e1 e2 gj
            go_wp2_with fail
            go_quiet (fail)
            go_wp2
            exact ⟨⟨j + 1, by omega, by go_num, grownBy_drewN GJ.out nq⟩, by simp [intOf]; omega⟩
          · have e1' : (l[j].sh == x.sh) = false := by simpa using e1
            generalize l[j].nu = jn at j1 ne
            generalize l[j].sh = js at j0 e1' ne e1
            clear ne e1 gj
            go_wp2_with fail
            go_quiet (fail)
            go_wp2
            exact ⟨⟨j + 1, by omega, by go_num, grownBy_drewN GJ.out nq⟩, by simp [intOf]; omega⟩
        · obtain rfl : j = i := by omega
          have z2 : ¬ (j : Int) < (j : Int) := by omega
          clear gj
          go_wp2_with fail
          refine Calls.mono (CF.out _ (G1.out.trans GJ.out) x.sh x.nu) ?_
          rintro e w2 ⟨rfl, g2⟩
          have G2 := Hid.mk' (GJ.out.trans g2)
          clear g2 i0 i1
          obtain ⟨n, hnl, hf, _, _⟩ := findK_pos (FD.out x (by rw [<- HXI.out]; exact List.getElem_mem hil))
          rw [hf]
          have g2' := G1.out.trans G2.out
          have K2 := Hid.mk' (HH.out.grown g2')
          obtain ⟨kg, koff, rfl, hk⟩ := KC.out (by rw [<- HN.out]; omega)
          have kc1 := K2.out.at_.c 1 _ rfl
          have k2 : w2.cell? ⟨kg, koff + n * 3 + 2, none⟩ = some (.int .i64 1) := by
            have := hk (3 * n + 2) (.int .i64 1) (by rw [flat_at3 kp.kn n 2 hnl (by omega)]; have e := H1.out kp.kn[n] (List.getElem_mem hnl); simp [Kn.cells, e])
            rw [show koff + (3 * n + 2) = koff + n * 3 + 2 by omega] at this
            exact g2'.cell this (by simp)
          have n0 : (0 : Int) <= (n : Int) := by omega
          have n1 : (n : Int) < (N : Int) := by rw [<- HN.out]; omega
          have n2 : ¬ (n : Int) < 0 := by omega
          clear hk hf g2'
          go_wp2
          exact ⟨⟨j + 1, by omega, by go_num, G2.out⟩, by simp [intOf]; omega⟩
    · obtain rfl : i = L := by omega
      have y1 : ¬ (i : Int) < (i : Int) := by omega
      go_wp2_with fail
      go_loopw [8] (fun f wq => ∃ n : Nat, n <= N /\ f = .int .i64 n /\ w1.grownBy wq none) (fun f _ => N - (intOf f).toNat)
      case atStart => exact ⟨0, by omega, rfl, GI.out⟩
      case round =>
        obtain ⟨n, hn', rfl, gn⟩ := hrel
        have GN := Hid.mk' gn
        have K2 := Hid.mk' (HH.out.grown (G1.out.trans gn))
        have kc1 := K2.out.at_.c 1 _ rfl
        have klt := K2.out.at_.lt
        clear gn
        by_cases hnN : n < N
        · have hnl : n < kp.kn.length := by rw [HN.out]; exact hnN
          obtain ⟨kg, koff, rfl, hk⟩ := KC.out (by rw [<- HN.out]; omega)
          have n0 : (0 : Int) <= (n : Int) := by omega
          have n1 : (n : Int) < (N : Int) := by omega
          obtain ⟨q, hq⟩ : ∃ q, kp.kn[n] = q := ⟨_, rfl⟩
          have KD : Hid (∀ W, w1.grownBy W none -> W.cell? ⟨kg, koff + n * 3, none⟩ = some (.int .i64 q.sh) /\ W.cell? ⟨kg, koff + n * 3 + 1, none⟩ = some (.int .i64 q.nu) /\ W.cell? ⟨kg, koff + n * 3 + 2, none⟩ = some (.int .i64 1)) := Hid.mk' fun W gW => by
            have h1 : q.how = 1 := by rw [<- hq]; exact H1.out kp.kn[n] (List.getElem_mem hnl)
            have d : ∀ j (hj : j < 3) u, q.cells[j]? = some u -> W.cell? ⟨kg, koff + n * 3 + j, none⟩ = some u := fun j hj u hu => by
              have := hk (3 * n + j) u (by rw [flat_at3 kp.kn n j hnl hj, hq]; exact hu)
              rw [show koff + (3 * n + j) = koff + n * 3 + j by omega] at this
              exact (G1.out.trans gW).cell this (by simp)
            exact ⟨d 0 (by omega) _ rfl, d 1 (by omega) _ rfl, d 2 (by omega) _ (by simp [Kn.cells, h1])⟩
          have TQ : Hid (hasD l q.sh q.nu = true) := Hid.mk' (by rw [<- hq]; exact TH.out kp.kn[n] (List.getElem_mem hnl))
          clear hk hq
          go_wp2_with fail
          go_loopw [9, 10] (fun b f wx => ∃ j : Nat, j <= i /\ f = .int .i64 j /\ b = .bool (hasD (l.take j) q.sh q.nu) /\ w1.grownBy wx none) (fun _ f _ => i - (intOf f).toNat)
          case atStart => exact ⟨0, by omega, rfl, rfl, GN.out⟩
          case round =>
            obtain ⟨j, hj, rfl, rfl, gj⟩ := hrel
            have GJ := Hid.mk' gj
            have K3 := Hid.mk' (HH.out.grown (G1.out.trans gj))
            have kc2 := K3.out.at_.c 1 _ rfl
            have klt2 := K3.out.at_.lt
            obtain ⟨q0, q1, q2⟩ := KD.out _ gj
            clear gj
            by_cases hji : j < i
            · have hjl : j < l.length := by rw [HL.out]; exact hji
              obtain ⟨g, off, rfl, hc⟩ := HX.out (by rw [HL.out]; omega)
              have j0 := GJ.out.cell (hc j hjl).1 (by simp)
              have j1 := GJ.out.cell (hc j hjl).2 (by simp)
              have z0 : (0 : Int) <= (j : Int) := by omega
              have z1 : (j : Int) < (i : Int) := by omega
              have HT : Hid (hasD (l.take (j + 1)) q.sh q.nu = (hasD (l.take j) q.sh q.nu || decide (l[j].sh = q.sh /\ l[j].nu = q.nu))) := Hid.mk' (by
                unfold hasD
                rw [List.take_succ_eq_append_getElem hjl, List.any_append]
                simp)
              clear hc
              obtain ⟨dj, hdj⟩ : ∃ dj, l[j] = dj := ⟨_, rfl⟩
              rw [hdj] at j0 j1 HT
              clear hdj
              generalize hasD (l.take j) q.sh q.nu = H at HT ⊢
              cases H
              · by_cases e1 : dj.sh = q.sh
                · by_cases e2 : dj.nu = q.nu
                  · rw [e1] at j0
                    rw [e2] at j1
                    go_wp2_with fail
                    go_quiet (fail)
                    go_wp2
                    refine ⟨⟨j + 1, by omega, by go_num, ?_, grownBy_drewN GJ.out nq⟩, by simp [intOf]; omega⟩
                    rw [HT.out]; simp [e1, e2]
                  · have e2' : (dj.nu == q.nu) = false := by simpa using e2
                    rw [e1] at j0
                    go_wp2_with fail
                    go_quiet (fail)
                    go_wp2
                    refine ⟨⟨j + 1, by omega, by go_num, ?_, grownBy_drewN GJ.out nq⟩, by simp [intOf]; omega⟩
                    rw [HT.out]; simp [e2]
                · have e1' : (dj.sh == q.sh) = false := by simpa using e1
                  go_wp2_with fail
                  go_quiet (fail)
                  go_wp2
                  refine ⟨⟨j + 1, by omega, by go_num, ?_, grownBy_drewN GJ.out nq⟩, by simp [intOf]; omega⟩
                  rw [HT.out]; simp [e1]
              · go_wp2_with fail
                go_quiet (fail)
                go_wp2
                refine ⟨⟨j + 1, by omega, by go_num, ?_, grownBy_drewN GJ.out nq⟩, by simp [intOf]; omega⟩
                rw [HT.out]; simp
            · obtain rfl : j = i := by omega
              have z1 : ¬ (j : Int) < (j : Int) := by omega
              have tt : l.take j = l := List.take_of_length_le (by rw [HL.out]; omega)
              rw [tt, TQ.out]
              go_wp2
              exact ⟨⟨n + 1, by omega, by go_num, GJ.out⟩, by simp [intOf]; omega⟩
        · obtain rfl : n = N := by omega
          have n1 : ¬ (n : Int) < (n : Int) := by omega
          have c2 := K2.out.at_.c 2 _ rfl
          have c3 := K2.out.at_.c 3 _ rfl
          have fK := K2.out.at_.f
          have G3 := Hid.mk' (G1.out.trans GN.out)
          go_wp2_with fail
          have X : Hid (KM w ((wr.setCell ⟨bk, 2, none⟩ (.bool false)).setCell ⟨bk, 3, none⟩ (.bool false)) bk bp (.slice ka n kc) D (.slice ka n kc) ⟨kp.kn, false, false, kp.m0, kp.m1⟩ p) :=
            Hid.mk' (((KX.kn1 K2.out (KS.grown G3.out)).put (k' := ⟨kp.kn, false, kp.d1, kp.m0, kp.m1⟩) 2 (.bool false) (by omega) rfl rfl).put (k' := ⟨kp.kn, false, false, kp.m0, kp.m1⟩) 3 (.bool false) (by omega) rfl rfl)
          generalize (wr.setCell ⟨bk, 2, none⟩ (.bool false)).setCell ⟨bk, 3, none⟩ (.bool false) = W3 at X ⊢
          obtain ⟨E, hx, hs⟩ := X.out
          have R1 := rises_any bk bp _ E _ p W3 hx UP.out.1 UP.out.2
          rw [RS.out ⟨kp.kn, false, false, kp.m0, kp.m1⟩ rfl rfl] at R1
          have HS := Hid.mk' hs
          have R2 := Hid.mk' R1
          clear R1 hx hs X c2 c3 fK
          refine Calls.mono R2.out ?_
          rintro e w4 ⟨rfl, vk', E', x1, x2, x3⟩
          have N4 : Hid (KN w w4 bk bp (.slice ka n kc) D ⟨kp.kn, false, false, p.marks 0, p.marks 1⟩ p) := Hid.mk' (KS.kn (HS.out.trans ⟨x2, x3⟩) x1)
          clear x1 x2 x3
          go_wp2
          go_ret
          exact ⟨rfl, by rw [HN.out]; exact N4.out⟩
theorem setSh_sh {p : Pr} {i : Int} (hi : is01 i) (s : Sh) : (p.setSh i s).sh i = s := by
  rcases hi with rfl | rfl <;> rfl
theorem setSh_two {p : Pr} {i : Int} (hi : is01 i) (s t : Sh) : (p.setSh i s).setSh i t = p.setSh i t := by
  rcases hi with rfl | rfl <;> rfl
theorem upE_set {p : Pr} {i : Int} (hi : is01 i) {s : Sh} (hu : s.up = true) : (p.setSh i s).upE i = 0 := by
  unfold Pr.upE upE
  rcases hi with rfl | rfl
  · rw [if_pos (.inl rfl)]; exact if_pos hu
  · rw [if_pos (.inr rfl)]; exact if_pos hu
theorem told_ds {p q : Pr} {i : Int} (hp : p.upE i = 0) (hq : q.upE i = 0) (e : (q.sh i).ds = (p.sh i).ds) : q.world i = p.world i /\ q.outbox i = p.outbox i /\ q.marks i = p.marks i := by
  unfold Pr.world Pr.outbox Pr.marks
  rw [if_pos hp, if_pos hq, if_pos hp, if_pos hq, if_pos hp, if_pos hq]
  exact ⟨congrArg Ds.it e, congrArg Ds.ob e, congrArg Ds.ms e⟩
theorem back_pr {p : Pr} (gd : PGd p) {i : Int} (hu : p.upE i = 0) (k : Int) :
    (p.crash i k).1 = 0 /\ ((p.crash i k).2.restart i).1 = 0 /\ ((p.crash i k).2.restart i).2.upE i = 0 /\ ((p.crash i k).2.restart i).2.world i = p.world i /\ ((p.crash i k).2.restart i).2.outbox i = p.outbox i /\ ((p.crash i k).2.restart i).2.marks i = p.marks i := by
  obtain ⟨hi, up⟩ := upE_at hu
  obtain ⟨⟨r, g⟩, _⟩ := gd.at hi
  have e1 : p.crash i k = (0, p.setSh i ((p.sh i).down.on ((p.sh i).dk.crash k))) := if_pos hu
  have e2 : (p.setSh i ((p.sh i).down.on ((p.sh i).dk.crash k))).restart i = (0, p.setSh i ((p.sh i).down.on ((p.sh i).dk.crash k)).restart) := by
    unfold Pr.restart
    rw [setSh_sh hi, if_pos ⟨hi, rfl⟩, setSh_two hi]
  have u2 : (p.setSh i ((p.sh i).down.on ((p.sh i).dk.crash k)).restart).upE i = 0 := upE_set hi rfl
  rw [e1]
  dsimp only
  rw [e2]
  exact ⟨rfl, rfl, u2, told_ds hu u2 (by rw [setSh_sh hi]; exact back_ds g up k)⟩
theorem up_pr {p : Pr} {i : Int} (hi : is01 i) (hu : p.upE i ≠ 0) : (p.restart i).1 = 0 := by
  have : (p.sh i).up = false := by
    cases h : (p.sh i).up
    · rfl
    · exact absurd (by rw [<- set_pick (p := p) hi]; exact upE_set hi h) hu
  unfold Pr.restart
  rw [if_pos ⟨hi, this⟩]
theorem told_ok {p : Pr} (gd : PGd p) (i : Int) : ((p.world i).length <= 1000 /\ ∀ x ∈ p.world i, Fine x) /\ ((p.outbox i).length <= 1000 /\ ∀ x ∈ p.outbox i, Fine x.it) := by
  unfold Pr.world Pr.outbox
  by_cases hu : p.upE i = 0
  · rw [if_pos hu, if_pos hu]
    obtain ⟨hi, up⟩ := upE_at hu
    obtain ⟨⟨r, g⟩, _⟩ := gd.at hi
    obtain ⟨_, _, _, _, _, has, _⟩ := g.has up
    have h1 := has.tl
    have h2 := has.ol
    have h3 := g.i1
    have h4 := g.o1
    exact ⟨⟨by show (p.sh i).ds.it.length <= _; omega, fun x hx => fine_of (has.it x hx).1⟩, ⟨by show (p.sh i).ds.ob.length <= _; omega, fun x hx => fine_of (has.en x hx).1⟩⟩
  · rw [if_neg hu, if_neg hu]
    simp
def kpK : Kp := ⟨[⟨0, 1, 1⟩], false, false, ⟨1, 1, 1, 0, 0⟩, ⟨1, 0, 0, 0, 1⟩⟩
section
variable {w wr : World} {bk bp : Nat} {cI cO cJ : Int}
theorem kept_right {wq : World} (h : KQ w bk bp wr ⟨[⟨0, 1, 1⟩], false, false, mk0, mk0⟩ (prK cI cO cJ)) (g : wr.grownBy wq none) :
    Calls Tryz.prog 25 #[.pointer (some ⟨bk, 0, none⟩)] wq fun e w' => e = .returned (.bool true) /\ KQ w bk bp w' kpK (prK cI cO cJ) /\ Only wq w' (fun j => j < wr.heap.size) := by
  obtain ⟨vk, D, hx0, gd, hF, ho0⟩ := h
  have hx := hx0.grown g
  have ho := ho0.trans ((Only.grown g).mono (A' := fun k => w.heap.size <= k ∨ w.heap.size <= k) (by simp))
  have hp : (prK cI cO cJ).there 0 ++ (prK cI cO cJ).there 1 = [⟨0, 1⟩] := by
    have := congrArg Prod.fst (kept_places cI cO cJ)
    unfold Pr.places at this
    rw [if_pos (kept_up cI cO cJ)] at this
    exact this
  refine (right_plain bk bp vk D ⟨[⟨0, 1, 1⟩], false, false, mk0, mk0⟩ (prK cI cO cJ) wq [⟨0, 1⟩] hx (kept_up cI cO cJ).1 (kept_up cI cO cJ).2 (by simp) (by simp) ?_ ?_ ?_ ?_ ?_ (fun W hW => ?_)).mono ?_
  · intro i j hi hj
    simp at hi
    omega
  · intro d hd
    obtain rfl : d = ⟨0, 1⟩ := by simpa using hd
    decide
  · intro q hq
    obtain rfl : q = ⟨0, 1, 1⟩ := by simpa using hq
    rfl
  · intro q hq
    obtain rfl : q = ⟨0, 1, 1⟩ := by simpa using hq
    decide
  · intro K e0 e1
    have z0 : fellB ((prK cI cO cJ).marks 0) mk0 ((prK cI cO cJ).marks 1) = false := by kernel_rfl
    have z1 : fellB ((prK cI cO cJ).marks 1) mk0 ((prK cI cO cJ).marks 0) = false := by kernel_rfl
    unfold Kp.rises
    rw [e0, e1, if_neg (by rw [z0]; simp), if_neg (by rw [z1]; simp)]
  · rw [<- hp]
    exact places_any bk bp vk D _ _ W hW gd (kept_up cI cO cJ).1 (kept_up cI cO cJ).2 (fun i => ⟨(told_ok gd i).1.1, (told_ok gd i).2.1⟩)
  · rintro e w' ⟨rfl, n⟩
    have o := n
    obtain ⟨_, _, _, _, o⟩ := o
    exact ⟨rfl, KQ.kn gd hF ho n, o.mono (fun j _ hj => hx0.ltF hj)⟩
theorem kept_minted (h : KQ w bk bp wr ⟨[], false, false, mk0, mk0⟩ (Pr.new cI cO cJ)) (hI : 1 <= cI) (hJ : 400 <= cJ) (t : ByteArray) :
    Calls Tryz.prog 32 #[.pointer (some ⟨bk, 0, none⟩), .int .i64 0, acV 0 0 0 0 0 0 1065353216 1073741824 t] wr fun e w' => e = .returned (.bool true) /\ KQ w bk bp w' ⟨[⟨0, 1, 1⟩], false, false, mk0, mk0⟩ ⟨sh2 cI cO cJ, sh1 1 cI cO cJ, [], []⟩ := by
  obtain ⟨vk, D, hx, gd, hF, ho⟩ := h
  have km := kept_mint cI cO cJ hI hJ
  have kk := mint_keep gd 0 (sideF 1065353216 0) (speedF 1073741824) (sideF_lt (by omega) 0) (speedF_ok (by omega)).2
  refine (minted_any bk bp vk D _ _ 0 0 0 0 0 0 0 1065353216 1073741824 t wr hx gd (.inl rfl) (by omega) (by omega) (by simp)).mono ?_
  rw [km] at kk ⊢
  rw [(new_up cI cO cJ).1]
  dsimp only
  rw [kept_known]
  rintro e w' ⟨rfl, n⟩
  exact ⟨rfl, KQ.kn kk.gd hF ho n⟩
end
theorem kept_any (cI cO cJ : Int) (w : World) (hv : cfgB cI cO cJ) (hJ : 400 <= cJ) :
    Calls Tryz.prog 10 #[.agg #[.int .i64 cI, .int .i64 cO, .int .i64 cJ]] w fun e w' => ∃ bk bp, e = .returned (.pointer (some ⟨bk, 0, none⟩)) /\ KQ w bk bp w' kpK (prK cI cO cJ) := by
  have hI : 1 <= cI := hv.1.1
  have hO : 1 <= cO := hv.2.1.1
  have hsf := run_store_float
  have G0 := Hid.mk' (World.grownBy_alloc w (.cells #[.int .i64 cI, .int .i64 cO, .int .i64 cJ] 23) none)
  have N1 := Hid.mk' fun W => new_px cI cO cJ W hv
  have V1 := Hid.mk' hv
  have B1 := Hid.mk' (And.intro hI (And.intro hO hJ))
  clear hv hI hO hJ
  go_enter Tryz.func10, Tryz.ntmps10
  go_wp2_with fail
  refine Calls.mono (N1.out _) ?_
  rintro e w1 ⟨bp, rfl, pw, hb, g1⟩
  have X1 := Hid.mk' (And.intro pw (And.intro hb g1))
  clear pw hb g1
  have Q1 : Hid (KQ w w1.heap.size bp (w1.alloc (.cells #[.pointer (some ⟨bp, 0, none⟩), .slice none 0 0, .bool false, .bool false, .int .i64 0, .int .i64 0, .int .i64 0, .int .i64 0, .int .i64 0, .int .i64 0, .int .i64 0, .int .i64 0, .int .i64 0, .int .i64 0] 47)) ⟨[], false, false, mk0, mk0⟩ (Pr.new cI cO cJ)) := by
    obtain ⟨pw, hb, g1⟩ := X1.out
    have z1 := G0.out.size
    have z2 := g1.size
    have pw' : PW w1 bp (fun j => w.heap.size <= j /\ j < w1.heap.size) (Pr.new cI cO cJ) := pw.mono (fun j hj hA => ⟨by omega, hj⟩)
    refine Hid.mk' ⟨.slice none 0 0, (fun j => w.heap.size <= j /\ j < w1.heap.size), ⟨At.new w1 (kpC bp (.slice none 0 0) ⟨[], false, false, mk0, mk0⟩) 47, World.ownsRow_nil _ _ _ _, pw'.grown (World.grownBy_alloc w1 _ none), fun j hj => by simp; omega, fun hj => by omega, fun j hj => by cases hj⟩, new_gd cI cO cJ V1.out, fun j hj => ?_, (Only.grown ((G0.out.trans g1).trans (World.grownBy_alloc w1 _ none))).mono (by simp)⟩
    rcases hj with rfl | hj | hj
    · omega
    · cases hj
    · exact hj.1
  go_wp2_with fail
  generalize w1.alloc (.cells #[.pointer (some ⟨bp, 0, none⟩), .slice none 0 0, .bool false, .bool false, .int .i64 0, .int .i64 0, .int .i64 0, .int .i64 0, .int .i64 0, .int .i64 0, .int .i64 0, .int .i64 0, .int .i64 0, .int .i64 0] 47) = W1 at Q1 ⊢
  generalize w1.heap.size = bk at Q1 ⊢
  clear X1
  refine Calls.mono (kept_minted Q1.out B1.out.1 B1.out.2.2 _) ?_
  rintro e w2 ⟨rfl, q2⟩
  have Q2 := Hid.mk' q2
  have C2 := Hid.mk' (q2.tick 0)
  rw [kept_tick cI cO cJ B1.out.2.1 B1.out.2.2] at C2
  clear q2 Q1
  go_wp2_with fail
  refine Calls.mono C2.out ?_
  rintro e w3 ⟨rfl, q3⟩
  have Q3 := Hid.mk' q3
  have C3 := Hid.mk' (q3.send 0)
  rw [kept_send cI cO cJ] at C3
  clear q3 Q2 C2
  go_wp2_with fail
  refine Calls.mono C3.out ?_
  rintro e w4 ⟨rfl, q4⟩
  have C4 := Hid.mk' (q4.deliver 1 0)
  rw [kept_deliver cI cO cJ B1.out.1 B1.out.2.2] at C4
  clear q4 Q3 C3
  go_wp2_with fail
  refine Calls.mono C4.out ?_
  rintro e w5 ⟨rfl, q5⟩
  have Q5 : Hid (KQ w bk bp w5 ⟨[⟨0, 1, 1⟩], false, false, mk0, mk0⟩ (prK cI cO cJ)) := Hid.mk' q5
  have C5 := Hid.mk' (Q5.out.world 1)
  rw [(kept_up cI cO cJ).2, kept_world cI cO cJ] at C5
  clear q5 C4
  go_wp2_with fail
  refine Calls.mono C5.out ?_
  rintro e w6 ⟨v6, rfl, o6, g6⟩
  obtain ⟨a6, c6, rfl, hx6⟩ := itm_at o6
  obtain ⟨g, rfl, hg1, hg2, hc⟩ := hx6 (by decide)
  have hc0 := hc 0 (by decide)
  have C6 := Hid.mk' (kept_right Q5.out g6)
  have X6 := Hid.mk' (And.intro hg1 hc0)
  clear o6 hx6 hc hc0 C5 hg1 hg2
  go_wp2_with fail
  refine Calls.mono C6.out ?_
  rintro e w7 ⟨rfl, q7, o7⟩
  have i0 : w7.cell? ⟨g, 0, none⟩ = some (.int .i64 0) := o7.cell X6.out.2.1 (by have := X6.out.1; show ¬ g < _; omega)
  have i1 : w7.cell? ⟨g, 1, none⟩ = some (.int .i64 1) := o7.cell X6.out.2.2 (by have := X6.out.1; show ¬ g < _; omega)
  have Q7 := Hid.mk' q7
  obtain ⟨vk, D, hx, gd, hF, ho⟩ := q7
  obtain ⟨ka, kc, rfl, hK⟩ := lies_of hx.ow
  obtain ⟨kg, koff, rfl, hk⟩ := hK (by decide)
  have k0 : w7.cell? ⟨kg, koff, none⟩ = some (.int .i64 0) := hk 0 _ rfl
  have k1 : w7.cell? ⟨kg, koff + 1, none⟩ = some (.int .i64 1) := hk 1 _ rfl
  have kb : w7.cell? ⟨bk, 1, none⟩ = some (.slice (some ⟨kg, koff, none⟩) 1 kc) := hx.at_.c 1 _ rfl
  have klt := hx.at_.lt
  clear hx gd hF ho hK hk o7 C6 X6 Q5
  go_wp2_with fail
  go_quiet (fail)
  go_wp2
  go_ret
  exact ⟨bk, bp, rfl, Q7.out.grown (grownBy_drewN (grownBy_refl _ _) nq)⟩
structure Al where
  K : Int
  sh : Int
  k : Int
  m : Int
  x : Int
  y : Int
  pl : Nat
  sp : Nat
  t : ByteArray
def Al.cells (a : Al) : List Value := [.int .i64 a.K, .int .i64 a.sh, .int .i64 a.k, .int .i64 a.m, .int .i64 a.x, .int .i64 a.y, .float .f32 a.pl, .float .f32 a.sp, .string a.t]
structure Al.Ok (a : Al) : Prop where
  sh : i64B a.sh
  k : i64B a.k
  m : i64B a.m
  pl : a.pl < 4294967296
  sp : a.sp < 4294967296
theorem flat_atL (as' : List Al) (k j : Nat) (hk : k < as'.length) (hj : j < 9) : (as'.flatMap Al.cells)[9 * k + j]? = as'[k].cells[j]? := by
  induction as' generalizing k with
  | nil => simp at hk
  | cons a t ih =>
    rw [List.flatMap_cons]
    cases k with
    | zero => rw [List.getElem?_append_left (by simp [Al.cells]; omega)]; simp
    | succ k =>
      rw [List.getElem?_append_right (by simp [Al.cells]; omega)]
      rw [show 9 * (k + 1) + j - a.cells.length = 9 * k + j by simp [Al.cells]; omega]
      simpa using ih k (by simpa using hk)
def LiesL (w : World) (v : Value) (l : List Al) : Prop := Lies w v l.length (l.flatMap Al.cells)
def LS (w : World) (bk bp m : Nat) (wr : World) (p : Pr) (F : Nat -> Prop) : Prop :=
  ∃ vk D kp, KX wr bk bp vk D kp p /\ PGd p /\ KnOk kp.kn /\ kp.kn.length <= m /\ (∀ j, kF bk vk D j -> F j) /\ (∀ j, F j -> w.heap.size <= j) /\ Only w wr (fun j => w.heap.size <= j)
section
variable {w wr w' : World} {bk bp m : Nat} {p : Pr} {F : Nat -> Prop}
theorem LS.gd (h : LS w bk bp m wr p F) : PGd p := by obtain ⟨_, _, _, _, h, _⟩ := h; exact h
theorem LS.only (h : LS w bk bp m wr p F) : Only w wr (fun j => w.heap.size <= j) := by obtain ⟨_, _, _, _, _, _, _, _, _, h⟩ := h; exact h
theorem LS.c0 (h : LS w bk bp m wr p F) : wr.cell? ⟨bk, 0, none⟩ = some (.pointer (some ⟨bp, 0, none⟩)) := by obtain ⟨_, _, _, h, _⟩ := h; exact h.at_.c 0 _ rfl
theorem LS.fresh (h : LS w bk bp m wr p F) : LS w bk bp m wr p (fun j => w.heap.size <= j /\ j < wr.heap.size) := by
  obtain ⟨vk, D, kp, hx, gd, ok, hl, hF, hW, ho⟩ := h
  exact ⟨vk, D, kp, hx, gd, ok, hl, fun j hj => ⟨hW j (hF j hj), hx.ltF hj⟩, fun j hj => hj.1, ho⟩
theorem LS.grown (h : LS w bk bp m wr p F) (g : wr.grownBy w' none) : LS w bk bp m w' p F := by
  obtain ⟨vk, D, kp, hx, gd, ok, hl, hF, hW, ho⟩ := h
  exact ⟨vk, D, kp, hx.grown g, gd, ok, hl, hF, hW, ho.trans ((Only.grown g).mono (by simp))⟩
theorem LS.world (h : LS w bk bp m wr p F) (i : Int) : Calls Tryz.prog 14 #[.pointer (some ⟨bp, 0, none⟩), .int .i64 i] wr fun e w' => ∃ v, e = .returned (.tuple #[v, .int .i64 (p.upE i)]) /\ OwnI wr.heap.size w' v (p.world i) /\ wr.grownBy w' none := by
  obtain ⟨vk, D, kp, hx, gd, _⟩ := h
  refine (world_px hx.pw gd i).mono ?_
  rintro e w' ⟨v, rfl, ho, _, g⟩
  exact ⟨v, rfl, ho, g⟩
theorem LS.outbox (h : LS w bk bp m wr p F) (i : Int) : Calls Tryz.prog 15 #[.pointer (some ⟨bp, 0, none⟩), .int .i64 i] wr fun e w' => ∃ v, e = .returned (.tuple #[v, .int .i64 (p.upE i)]) /\ OwnE wr.heap.size w' v (p.outbox i) /\ wr.grownBy w' none := by
  obtain ⟨vk, D, kp, hx, gd, _⟩ := h
  refine (outbox_px hx.pw gd i).mono ?_
  rintro e w' ⟨v, rfl, ho, _, g⟩
  exact ⟨v, rfl, ho, g⟩
theorem LS.marks (h : LS w bk bp m wr p F) (i : Int) : Calls Tryz.prog 16 #[.pointer (some ⟨bp, 0, none⟩), .int .i64 i] wr fun e w' => e = .returned (.tuple #[mkV (p.marks i), .int .i64 (p.upE i)]) /\ wr.grownBy w' none := by
  obtain ⟨vk, D, kp, hx, gd, _⟩ := h
  exact marks_px hx.pw i
theorem LS.turn {vk : Value} {D : Nat -> Prop} {kp : Kp} {q : Pr} (hx : KX wr bk bp vk D kp p) (gd : PGd q) (ok : KnOk kp.kn) (hl : kp.kn.length <= m) (hF : ∀ j, kF bk vk D j -> F j) (hW : ∀ j, F j -> w.heap.size <= j) (ho : Only w wr (fun j => w.heap.size <= j)) (n : PN wr w' bp D q) :
    LS w bk bp m w' q (fun j => F j ∨ wr.heap.size <= j) /\ Only wr w' F := by
  obtain ⟨x, s⟩ := hx.turnX n
  refine ⟨⟨vk, _, kp, x, gd, ok, hl, fun j hj => ?_, fun j hj => ?_, ho.trans (s.2.mono (fun j _ hj => .inl (hW j (hF j hj))))⟩, s.2.mono (fun j _ hj => hF j hj)⟩
  · rcases s.1 j hj with e | e
    · exact .inl (hF j e)
    · exact .inr e
  · rcases hj with e | e
    · exact hW j e
    · exact Nat.le_trans ho.size e
theorem LS.crash (h : LS w bk bp m wr p F) (i k : Int) : Calls Tryz.prog 18 #[.pointer (some ⟨bp, 0, none⟩), .int .i64 i, .int .i64 k] wr fun e w' => e = .returned (.int .i64 (p.crash i k).1) /\ LS w bk bp m w' (p.crash i k).2 (fun j => F j ∨ wr.heap.size <= j) /\ Only wr w' F := by
  obtain ⟨vk, D, kp, hx, gd, ok, hl, hF, hW, ho⟩ := h
  refine (crash_px hx.pw i k).mono ?_
  rintro e w' ⟨rfl, n⟩
  exact ⟨rfl, LS.turn hx (crash_keep gd i k).gd ok hl hF hW ho n⟩
theorem LS.restart (h : LS w bk bp m wr p F) (i : Int) : Calls Tryz.prog 17 #[.pointer (some ⟨bp, 0, none⟩), .int .i64 i] wr fun e w' => e = .returned (.int .i64 (p.restart i).1) /\ LS w bk bp m w' (p.restart i).2 (fun j => F j ∨ wr.heap.size <= j) /\ Only wr w' F := by
  obtain ⟨vk, D, kp, hx, gd, ok, hl, hF, hW, ho⟩ := h
  refine (restart_px hx.pw gd i).mono ?_
  rintro e w' ⟨rfl, n⟩
  exact ⟨rfl, LS.turn hx (restart_keep gd i).gd ok hl hF hW ho n⟩
theorem LS.act (h : LS w bk bp m wr p F) (a : Al) (oka : a.Ok) (hm : m + 1 <= 3000000) : Calls Tryz.prog 12 #[.pointer (some ⟨bk, 0, none⟩), acV a.K a.sh a.k a.m a.x a.y a.pl a.sp a.t] wr fun e w' => ∃ b q, e = .returned (.bool b) /\ LS w bk bp (m + 1) w' q (fun j => F j ∨ wr.heap.size <= j) := by
  obtain ⟨vk, D, kp, hx, gd, ok, hl, hF, hW, ho⟩ := h
  have kk := kAct_keep (k := kp) gd ok a.K (pickN a.sh 2) a.k a.m a.pl a.sp oka.m oka.pl oka.sp
  refine (kact_any bk bp vk D kp p a.K a.sh a.k a.m a.x a.y a.pl a.sp a.t wr hx gd oka.sh oka.k oka.pl oka.sp (by omega) ok).mono ?_
  rintro e w' ⟨rfl, vk', D', x, s1, s2⟩
  refine ⟨_, _, rfl, vk', D', _, x, kk.1.gd, kk.2.1, by omega, fun j hj => ?_, fun j hj => ?_, ho.trans (s2.mono (fun j _ hj => .inl (hW j (hF j hj))))⟩
  · rcases s1 j hj with e | e
    · exact .inl (hF j e)
    · exact .inr e
  · rcases hj with e | e
    · exact hW j e
    · exact Nat.le_trans ho.size e
end
theorem ownI_ge {B : Nat} {w : World} {v : Value} {l : List It} (h : OwnI B w v l) : ∀ j, v.ownBlock = some j -> B <= j := fun j hj => by
  rcases h.2 with ⟨h', _⟩ | ⟨g, cap, cur, h', h1, h2, _⟩
  · rw [h'] at hj; cases hj
  · rw [h'] at hj
    injection hj with hj
    subst hj
    exact h1
theorem ownE_ge {B : Nat} {w : World} {v : Value} {l : List En} (h : OwnE B w v l) : ∀ j, v.ownBlock = some j -> B <= j := fun j hj => by
  rcases h.2 with ⟨h', _⟩ | ⟨g, cap, cur, h', h1, h2, _⟩
  · rw [h'] at hj; cases hj
  · rw [h'] at hj
    injection hj with hj
    subst hj
    exact h1
theorem lasting_x (cI cO cJ kk : Int) (v : Value) (l : List Al) (w : World) (hI : i64B cI) (hO : i64B cO) (hJ : i64B cJ) (hl : LiesL w v l) (hn : l.length <= 1048576) (ok : ∀ a ∈ l, a.Ok)
    (K : ∀ W, Calls Tryz.prog 10 #[.agg #[.int .i64 (setI cI), .int .i64 (setO cO), .int .i64 (setJ cJ)]] W fun e w' => ∃ bk bp p, e = .returned (.pointer (some ⟨bk, 0, none⟩)) /\ LS W bk bp 1 w' p (fun j => W.heap.size <= j)) :
    Calls Tryz.prog 4 #[.agg #[.int .i64 cI, .int .i64 cO, .int .i64 cJ], v, .int .i64 kk] w fun e w' => e = .returned (.bool true) /\ Only w w' (fun j => w.heap.size <= j) := by
  have hsf := run_store_float
  obtain ⟨a, c, rfl, hx⟩ := hl
  obtain ⟨n, hln⟩ : ∃ n, l.length = n := ⟨_, rfl⟩
  rw [hln] at hx hn ⊢
  have HX := Hid.mk' hx
  have HL := Hid.mk' hln
  have OK := Hid.mk' ok
  have G0 := Hid.mk' (World.grownBy_alloc w (.cells #[.int .i64 cI, .int .i64 cO, .int .i64 cJ] 23) none)
  have S1 := Hid.mk' fun W => settings_any cI cO cJ W hI hO hJ
  have K1 := Hid.mk' K
  clear hx hln ok K hI hO hJ
  generalize setI cI = sI at S1 K1
  generalize setO cO = sO at S1 K1
  generalize setJ cJ = sJ at S1 K1
  go_enter Tryz.func4, Tryz.ntmps4
  go_wp2_with fail
  refine Calls.mono (S1.out _) ?_
  rintro e w1 ⟨rfl, g1⟩
  have G1 := Hid.mk' (G0.out.trans g1)
  clear g1
  go_wp2_with fail
  refine Calls.mono (K1.out _) ?_
  rintro e w2 ⟨bk, bp, p, rfl, ls⟩
  have L2 : Hid (∃ F, LS w bk bp 1 w2 p F) := by
    obtain ⟨vk, D, kp, hx, gd, ok, hl, hF, hW, ho⟩ := ls
    have z := G1.out.size
    exact Hid.mk' ⟨(fun j => w1.heap.size <= j), vk, D, kp, hx, gd, ok, hl, hF, fun j hj => by omega, ((Only.grown G1.out).mono (by simp)).trans (ho.mono (fun j _ hj => .inl (by omega)))⟩
  clear ls K1 S1
  go_wp2_with fail
  go_loopw [8] (fun f wr => ∃ k : Nat, k <= n /\ f = .int .i64 k /\ ∃ p F, LS w bk bp (1 + k) wr p F) (fun f _ => n - (intOf f).toNat)
  case atStart => exact ⟨0, by omega, rfl, p, L2.out⟩
  case round =>
    clear L2
    obtain ⟨k, hk, rfl, p, F, ls⟩ := hrel
    have L1 := Hid.mk' ls
    clear ls
    by_cases hlt : k < n
    · have hkl : k < l.length := by rw [HL.out]; exact hlt
      obtain ⟨g, off, rfl, hc⟩ := HX.out (by omega)
      obtain ⟨y, hi⟩ : ∃ y, l[k] = y := ⟨_, rfl⟩
      have hgl : g < w.heap.size := World.block_lt_of_cell? w _ (hc (9 * k) _ (by rw [show 9 * k = 9 * k + 0 by omega, flat_atL l k 0 hkl (by omega)]; rfl))
      have D : Hid (∀ W, Only w W (fun j => w.heap.size <= j) -> ∀ j (hj : j < 9) u, y.cells[j]? = some u -> W.cell? ⟨g, off + k * 9 + j, none⟩ = some u) := Hid.mk' fun W o j hj u hu => by
        have := hc (9 * k + j) u (by rw [flat_atL l k j hkl hj, hi]; exact hu)
        rw [show off + (9 * k + j) = off + k * 9 + j by omega] at this
        exact o.cell this (by simp; omega)
      have AO := Hid.mk' (OK.out y (by rw [<- hi]; exact List.getElem_mem hkl))
      have d0 := D.out wr L1.out.only 0 (by omega) _ rfl
      have d1 := D.out wr L1.out.only 1 (by omega) _ rfl
      have d2 := D.out wr L1.out.only 2 (by omega) _ rfl
      have d3 := D.out wr L1.out.only 3 (by omega) _ rfl
      have d4 := D.out wr L1.out.only 4 (by omega) _ rfl
      have d5 := D.out wr L1.out.only 5 (by omega) _ rfl
      have d6 := D.out wr L1.out.only 6 (by omega) _ rfl
      have d7 := D.out wr L1.out.only 7 (by omega) _ rfl
      have d8 := D.out wr L1.out.only 8 (by omega) _ rfl
      rw [Nat.add_zero] at d0
      have AC := Hid.mk' (LS.act L1.out y AO.out (by omega))
      have PK := Hid.mk' fun W => pickN_any y.sh 2 W AO.out.sh (by omega) (by omega)
      have I01 := Hid.mk' (pick_is01 y.sh)
      clear hc hi AO
      obtain ⟨K, sh, yk, m, x, yy, pl, sp, t⟩ := y
      simp only at d0 d1 d2 d3 d4 d5 d6 d7 d8 AC PK I01
      generalize pickN sh 2 = i at PK I01
      have y0 : (0 : Int) <= (k : Int) := by omega
      have y1 : (k : Int) < (n : Int) := by omega
      go_wp2_with fail
      refine Calls.mono AC.out ?_
      rintro e w2 ⟨b, q, rfl, l2⟩
      have L2 := Hid.mk' l2.fresh
      clear l2 AC d0 d1 d2 d3 d4 d5 d6 d7 d8
      have e1 := D.out w2 L2.out.only 1 (by omega) _ rfl
      go_wp2_with fail
      refine Calls.mono (PK.out _) ?_
      rintro e w2' ⟨rfl, rfl⟩
      have c2 := L2.out.c0
      clear e1 PK
      go_wp2_with fail
      refine Calls.mono (L2.out.world i) ?_
      rintro e w3 ⟨v3, rfl, o3, g3⟩
      obtain ⟨a3, n3, rfl⟩ := slice_len o3
      have O3 := Hid.mk' o3
      have G3 := Hid.mk' g3
      have L3 := Hid.mk' (L2.out.grown g3)
      have c3 := L3.out.c0
      clear o3 g3 c2
      go_wp2_with fail
      refine Calls.mono (L3.out.outbox i) ?_
      rintro e w4 ⟨v4, rfl, o4, g4⟩
      obtain ⟨a4, n4, rfl⟩ := slice_len o4
      have O4 := Hid.mk' o4
      have G4 := Hid.mk' g4
      have L4 := Hid.mk' (L3.out.grown g4)
      have c4 := L4.out.c0
      clear o4 g4 c3
      go_wp2_with fail
      have CM := Hid.mk' (L4.out.marks i)
      unfold mkV at CM
      obtain ⟨M, hM⟩ : ∃ M, q.marks i = M := ⟨_, rfl⟩
      obtain ⟨U, hU⟩ : ∃ U, q.upE i = U := ⟨_, rfl⟩
      have HM := Hid.mk' hM
      have HU := Hid.mk' hU
      rw [hM, hU] at CM
      rw [hU]
      clear hM hU
      refine Calls.mono CM.out ?_
      rintro e w5 ⟨rfl, g5⟩
      have G5 := Hid.mk' (g5.trans (World.grownBy_alloc w5 (.cells #[.int .i64 M.g, .int .i64 M.m, .int .i64 M.s, .int .i64 M.a, .int .i64 M.n] 44) none))
      have A5 := Hid.mk' (At.new w5 [.int .i64 M.g, .int .i64 M.m, .int .i64 M.s, .int .i64 M.a, .int .i64 M.n] 44)
      have Z5 : Hid (w4.heap.size <= w5.heap.size) := Hid.mk' g5.size
      have L5 := Hid.mk' (L4.out.grown G5.out)
      have c5 := L5.out.c0
      clear g5 c4 CM
      by_cases u0 : U = 0
      · subst u0
        have BK := Hid.mk' (back_pr L5.out.gd HU.out kk)
        have e0 := D.out _ L5.out.only 0 (by omega) _ rfl
        rw [Nat.add_zero] at e0
        by_cases h4 : 4 < K /\ K ≠ 9
        · have t4 : decide (4 < K) = true := decide_eq_true h4.1
          have t9 : (K == 9) = false := by simpa using h4.2
          clear h4
          go_wp2
          exact ⟨⟨k + 1, by omega, by go_num, _, _, L5.out⟩, by simp [intOf]; omega⟩
        have CC := Hid.mk' (L5.out.crash i kk)
        rw [BK.out.1] at CC
        have hK : decide (4 < K) = false ∨ (decide (4 < K) = true /\ (K == 9) = true) := by
          by_cases c1 : 4 < K
          · by_cases c2 : K = 9
            · exact .inr ⟨decide_eq_true c1, by simpa using c2⟩
            · exact absurd ⟨c1, c2⟩ h4
          · exact .inl (decide_eq_false c1)
        clear h4
        rcases hK with t4 | ⟨t4, t9⟩
        all_goals
          go_wp2_with fail
          refine Calls.mono CC.out ?_
          rintro e w6 ⟨rfl, l6, o6⟩
          have L6 := Hid.mk' l6
          have O6 := Hid.mk' o6
          have c6 := L6.out.c0
          clear l6 o6 c5 e0
          have CR := Hid.mk' (L6.out.restart i)
          rw [BK.out.2.1] at CR
          go_wp2_with fail
          refine Calls.mono CR.out ?_
          rintro e w7 ⟨rfl, l7, o7⟩
          have L7 := Hid.mk' l7
          have O7 := Hid.mk' (O6.out.trans o7)
          have c7 := L7.out.c0
          have CW := Hid.mk' (L7.out.world i)
          rw [BK.out.2.2.1, BK.out.2.2.2.1] at CW
          clear l7 o7 c6
          go_wp2_with fail
          refine Calls.mono CW.out ?_
          rintro e w8 ⟨v8, rfl, o8, g8⟩
          obtain ⟨a8, n8, rfl⟩ := slice_len o8
          have O8 := Hid.mk' o8
          have G8 := Hid.mk' g8
          have L8 := Hid.mk' (L7.out.grown g8)
          have c8 := L8.out.c0
          have CO := Hid.mk' (L8.out.outbox i)
          rw [BK.out.2.2.1, BK.out.2.2.2.2.1] at CO
          clear o8 g8 c7
          go_wp2_with fail
          refine Calls.mono CO.out ?_
          rintro e w9 ⟨v9, rfl, o9, g9⟩
          obtain ⟨a9, n9, rfl⟩ := slice_len o9
          have O9 := Hid.mk' o9
          have G9 := Hid.mk' g9
          have L9 := Hid.mk' (L8.out.grown g9)
          have c9 := L9.out.c0
          have CN := Hid.mk' (L9.out.marks i)
          rw [BK.out.2.2.1, BK.out.2.2.2.2.2, HM.out] at CN
          unfold mkV at CN
          clear o9 g9 c8
          go_wp2_with fail
          refine Calls.mono CN.out ?_
          rintro e wA ⟨rfl, gA⟩
          have GA := Hid.mk' (gA.trans (World.grownBy_alloc wA (.cells #[.int .i64 M.g, .int .i64 M.m, .int .i64 M.s, .int .i64 M.a, .int .i64 M.n] 44) none))
          have AA := Hid.mk' (At.new wA [.int .i64 M.g, .int .i64 M.m, .int .i64 M.s, .int .i64 M.a, .int .i64 M.n] 44)
          have LA := Hid.mk' (L9.out.grown GA.out)
          clear gA c9
          have Q3 : Hid (LiesI (wA.alloc (.cells #[.int .i64 M.g, .int .i64 M.m, .int .i64 M.s, .int .i64 M.a, .int .i64 M.n] 44)) (.slice a3 (q.world i).length n3) (q.world i)) := by
            have h1 := (Only.grown (G4.out.trans G5.out)).own O3.out (by simp)
            have h2 := O7.out.own h1 (fun j hj e => by have := ownI_ge O3.out j hj; omega)
            have h3 := (Only.grown ((G8.out.trans G9.out).trans GA.out)).own h2 (by simp)
            exact Hid.mk' (Lies.of_own h3)
          have Q8 : Hid (LiesI (wA.alloc (.cells #[.int .i64 M.g, .int .i64 M.m, .int .i64 M.s, .int .i64 M.a, .int .i64 M.n] 44)) (.slice a8 (q.world i).length n8) (q.world i)) :=
            Hid.mk' (Lies.of_own ((Only.grown (G9.out.trans GA.out)).own O8.out (by simp)))
          have CI := Hid.mk' (sameItems_any _ _ _ _ Q3.out Q8.out (by have := (told_ok L5.out.gd i).1.1; omega) (told_ok L5.out.gd i).1.2)
          go_wp2_with fail
          refine Calls.mono CI.out ?_
          rintro e wB ⟨rfl, gB⟩
          have GB := Hid.mk' gB
          clear gB
          have Q4 : Hid (LiesE wB (.slice a4 (q.outbox i).length n4) (q.outbox i)) := by
            have h1 := (Only.grown G5.out).own O4.out (by simp)
            have h2 := O7.out.own h1 (fun j hj e => by have := ownE_ge O4.out j hj; have := G3.out.size; omega)
            have h3 := (Only.grown (((G8.out.trans G9.out).trans GA.out).trans GB.out)).own h2 (by simp)
            exact Hid.mk' (Lies.of_own h3)
          have Q9 : Hid (LiesE wB (.slice a9 (q.outbox i).length n9) (q.outbox i)) :=
            Hid.mk' (Lies.of_own ((Only.grown (GA.out.trans GB.out)).own O9.out (by simp)))
          have CE := Hid.mk' (sameEntries_any _ _ _ _ Q4.out Q9.out (by have := (told_ok L5.out.gd i).2.1; omega) (told_ok L5.out.gd i).2.2)
          go_wp2_with fail
          refine Calls.mono CE.out ?_
          rintro e wC ⟨rfl, gC⟩
          have LC := Hid.mk' (LA.out.grown (GB.out.trans gC))
          have z5 : w2'.heap.size <= w5.heap.size := by have := G3.out.size; have := G4.out.size; have := Z5.out; omega
          have X5 := Hid.mk' ((A5.out.only O7.out (by omega)).grown ((((G8.out.trans G9.out).trans GA.out).trans GB.out).trans gC))
          have XA := Hid.mk' (AA.out.grown (GB.out.trans gC))
          have p0 := X5.out.c 0 _ rfl
          have p1 := X5.out.c 1 _ rfl
          have p2 := X5.out.c 2 _ rfl
          have p3 := X5.out.c 3 _ rfl
          have p4 := X5.out.c 4 _ rfl
          have q0 := XA.out.c 0 _ rfl
          have q1 := XA.out.c 1 _ rfl
          have q2 := XA.out.c 2 _ rfl
          have q3 := XA.out.c 3 _ rfl
          have q4 := XA.out.c 4 _ rfl
          clear gC
          go_wp2
          exact ⟨⟨k + 1, by omega, by go_num, _, _, LC.out⟩, by simp [intOf]; omega⟩
      · have nb : (U == 0) = false := by simpa using u0
        have R0 : Hid ((q.restart i).1 = 0) := Hid.mk' (up_pr I01.out (by rw [HU.out]; exact u0))
        have CR := Hid.mk' (L5.out.restart i)
        rw [R0.out] at CR
        go_wp2_with fail
        refine Calls.mono CR.out ?_
        rintro e w6 ⟨rfl, l6, o6⟩
        go_wp2
        exact ⟨⟨k + 1, by omega, by go_num, _, _, l6⟩, by simp [intOf]; omega⟩
    · obtain rfl : k = n := by omega
      have y1 : ¬ (k : Int) < (k : Int) := by omega
      go_wp2
      go_ret
      exact ⟨rfl, L1.out.only⟩
theorem lasting_any (cI cO cJ kk : Int) (v : Value) (l : List Al) (w : World) (hI : i64B cI) (hO : i64B cO) (hJ : i64B cJ) (hl : LiesL w v l) (hn : l.length <= 1048576) (ok : ∀ a ∈ l, a.Ok) :
    Calls Tryz.prog 4 #[.agg #[.int .i64 cI, .int .i64 cO, .int .i64 cJ], v, .int .i64 kk] w fun e w' => e = .returned (.bool true) /\ Only w w' (fun j => w.heap.size <= j) := by
  refine lasting_x cI cO cJ kk v l w hI hO hJ hl hn ok (fun W => ?_)
  refine (kept_any _ _ _ W (set_cfg cI cO cJ).1 (set_cfg cI cO cJ).2).mono ?_
  · rintro e w' ⟨bk, bp, rfl, vk, D, hx, gd, hF, ho⟩
    refine ⟨bk, bp, _, rfl, vk, D, _, hx, gd, ?_, by simp [kpK], hF, fun j hj => hj, ho⟩
    intro q hq
    obtain rfl : q = ⟨0, 1, 1⟩ := by simpa [kpK] using hq
    exact ⟨⟨by decide, by decide⟩, ⟨by decide, by decide⟩⟩
end Go.Proofs.YtammnaafdhhjaaaGreat
