import Derived.Test.YtammnaafdhhjaaaGreatRows
import Derived.Test.YtammnaafdhhjaaaGreatJG13
import Derived.Test.YtammnaafdhhjaaaGreatJG16
set_option maxHeartbeats 16000000
set_option maxRecDepth 100000
namespace Go.Proofs.YtammnaafdhhjaaaGreat
open Go.RowKit
theorem Came.base {B B' : Nat} {w : World} {v : Value} {rs : List Rw} (h : Came B w v rs) (hB : B' <= B) : Came B' w v rs :=
  ⟨own_base h.row hB, fun r hr => own_base (h.oi r hr) hB, fun r hr => own_base (h.oo r hr) hB, h.io, h.pw, h.out⟩
theorem Came.only {B : Nat} {w w' : World} {v : Value} {rs : List Rw} {A : Nat -> Prop} (h : Came B w v rs) (o : Only w w' A) (hA : ∀ j, B <= j -> ¬ A j) : Came B w' v rs :=
  ⟨o.own h.row (fun j hj => hA j (h.row.lt j hj).1), fun r hr => o.own (h.oi r hr) (fun j hj => hA j ((h.oi r hr).lt j hj).1), fun r hr => o.own (h.oo r hr) (fun j hj => hA j ((h.oo r hr).lt j hj).1), h.io, h.pw, h.out⟩
theorem flat_at13' (rs : List Rw) (k j : Nat) (hk : k < rs.length) (hj : j < 13) : (rs.flatMap Rw.cells)[13 * k + j]? = rs[k].cells[j]? := by
  induction rs generalizing k with
  | nil => simp at hk
  | cons a t ih =>
    rw [List.flatMap_cons]
    cases k with
    | zero => rw [List.getElem?_append_left (by simp [Rw.cells]; omega)]; simp
    | succ k =>
      rw [List.getElem?_append_right (by simp [Rw.cells]; omega)]
      have := ih k (by simp at hk; omega)
      simp only [List.getElem_cons_succ]
      rw [<- this]
      congr 1
      simp [Rw.cells]
      omega
def Leg : Sh -> List Rc -> Prop
  | _, [] => True
  | s, r :: l => DoOk s r /\ Leg (s.doR r) l
theorem Leg.at : ∀ {s : Sh} {l : List Rc} {k : Nat} (_ : Leg s l) (hk : k < l.length), DoOk ((l.take k).foldl Sh.doR s) l[k]
  | s, r :: l, 0, h, _ => h.1
  | s, r :: l, k + 1, h, hk => Leg.at (l := l) (k := k) h.2 (by simpa using hk)
structure Jnl (s : Sh) (rs : List Rc) : Prop where
  pos : 0 < rs.length
  base : ∀ h : 0 < rs.length, (rs[0]).kind = 6 /\ (rs[0]).items.length <= 1000 /\ ∀ x ∈ (rs[0]).items, i64B x.sh /\ i64B x.nu
  leg : ∀ h : 0 < rs.length, Leg (s.doR rs[0]) rs.tail
  len : rs.length <= 1000000
theorem Jnl.at {s : Sh} {rs : List Rc} (h : Jnl s rs) {k : Nat} (h0 : 0 < k) (hk : k < rs.length) : DoOk ((rs.take k).foldl Sh.doR s) rs[k] := by
  cases rs with
  | nil => simp at hk
  | cons r l =>
    obtain ⟨m, rfl⟩ : ∃ m, k = m + 1 := ⟨k - 1, by omega⟩
    exact Leg.at (h.leg (by simp)) (by simpa using hk)
structure Ro (w wr : World) (b bd : Nat) (s : Sh) (v : Value) (rs : List Rw) (k : Nat) : Prop where
  row : wr.ownsRow w.heap.size 139 13 v rs.length (rs.flatMap Rw.cells)
  dk : At wr bd s.dk.cells
  on : Only w wr (fun j => j = b ∨ j = bd)
  z : k = 0 -> At wr b (s.cells bd (.map none) (.slice none 0 0)) /\ Came w.heap.size wr v rs
  p : 0 < k -> ∃ bm ov, HS wr w.heap.size b (((rs.map Rw.p).take k).foldl Sh.doR s) bd bm ov /\ w.heap.size <= bm /\ v.ownBlock ≠ some bm /\ (∀ j, ov.ownBlock = some j -> v.ownBlock ≠ some j)
theorem Ro.first {w wr w' : World} {b bd : Nat} {s : Sh} {v : Value} {rs : List Rw} (hb : b < w.heap.size) (hne : bd ≠ b) (h : Ro w wr b bd s v rs 0) (hk : 0 < rs.length) {ob : Obj}
    {bm : Nat} (hs : HS w' w.heap.size b (s.doR (rs[0]).p) bd bm (rs[0]).vo) (o : Only (wr.alloc ob) w' (fun j => j = b)) (hm : (wr.alloc ob).heap.size <= bm) : Ro w w' b bd s v rs 1 := by
  have o1 : Only wr w' (fun j => j = b) := ((Only.grown (World.grownBy_alloc wr ob none)).mono (by simp)).trans (o.mono (fun _ _ e => .inl e))
  have vl := h.row.lt
  have zz : wr.heap.size < (wr.alloc ob).heap.size := by simp
  refine ⟨o1.own h.row (fun j hj e => by have := (vl j hj).1; omega), h.dk.only o1 hne, h.on.trans (o1.mono (fun _ _ e => .inl (.inl e))), by simp, fun _ => ⟨bm, (rs[0]).vo, ?_, ?_, fun e => ?_, fun j hj => (h.z rfl).2.out _ (List.getElem_mem hk) j (.inr hj)⟩⟩
  · have e : ((rs.map Rw.p).take 1).foldl Sh.doR s = s.doR (rs[0]).p := by
      cases rs with
      | nil => simp at hk
      | cons a t => rfl
    rw [e]
    exact hs
  · have := h.on.size; omega
  · have := (vl bm e).2; omega
theorem Ro.next {w wr w' : World} {b bd bm : Nat} {s : Sh} {v ov ov' : Value} {rs : List Rw} {k : Nat} (hb : b < w.heap.size) (hd : bd < w.heap.size) (hne : bd ≠ b) (h : Ro w wr b bd s v rs k) (hk : k < rs.length) {ob : Obj}
    (h0 : HS wr w.heap.size b (((rs.map Rw.p).take k).foldl Sh.doR s) bd bm ov) (hbm : w.heap.size <= bm) (hvb : v.ownBlock ≠ some bm) (hvo : ∀ j, ov.ownBlock = some j -> v.ownBlock ≠ some j)
    (hs : HS w' w.heap.size b ((((rs.map Rw.p).take k).foldl Sh.doR s).doR (rs[k]).p) bd bm ov') (o : Only (wr.alloc ob) w' (HS.foot b bm ov)) (hv : ∀ j, ov'.ownBlock = some j -> ov.ownBlock = some j ∨ (wr.alloc ob).heap.size <= j) : Ro w w' b bd s v rs (k + 1) := by
  have o1 : Only wr w' (HS.foot b bm ov) := ((Only.grown (World.grownBy_alloc wr ob none)).mono (by simp)).trans (o.mono (fun _ _ e => .inl e))
  have vl := h.row.lt
  have ol := h0.ob.lt
  have zz : wr.heap.size < (wr.alloc ob).heap.size := by simp
  refine ⟨o1.own h.row (fun j hj e => ?_), h.dk.only o1 (fun e => ?_), h.on.trans (o1.mono (fun j _ e => ?_)), by omega, fun _ => ⟨bm, ov', ?_, hbm, hvb, fun j hj => ?_⟩⟩
  · have := (vl j hj).1
    rcases e with e | e | e
    · omega
    · exact hvb (by rw [<- e]; exact hj)
    · exact hvo j e hj
  · rcases e with e | e | e
    · exact hne e
    · omega
    · have := (ol bd e).1; omega
  · rcases e with e | e | e
    · exact .inl (.inl e)
    · exact .inr (by omega)
    · exact .inr (ol j e).1
  · have hk' : k < (rs.map Rw.p).length := by simpa using hk
    rw [List.take_succ_eq_append_getElem hk', List.foldl_append]
    simpa using hs
  · rcases hv j hj with e | e
    · exact hvo j e
    · intro e'
      have := (vl j e').2
      omega
theorem restart_up (b : Nat) (s : Sh) (F : Nat -> Prop) (w : World) (h : PS w b s F) (hu : s.up = true) :
    Calls Tryz.prog 43 #[.pointer (some ⟨b, 0, none⟩)] w fun e w' => e = .returned (.int .i64 2) /\ w' = w := by
  obtain ⟨bd, mv, ov, h1, _⟩ := h.cells
  have c5 := h1.c 5 _ rfl
  rw [hu] at c5
  clear h1
  go_enter Tryz.func43, Tryz.ntmps43
  go_wp2
  go_ret
  exact ⟨rfl, rfl⟩
theorem restart_0 (b bd : Nat) (s : Sh) (w : World) (h : At w b (s.cells bd (.map none) (.slice none 0 0))) (hd : At w bd s.dk.cells) (ok : s.dk.Ok) (hne : bd ≠ b) (hu : s.up = false) (hg : ¬ genOf (scanL s.dk.f0) < genOf (scanL s.dk.f1)) (hj : Jnl ({ s with ct := 0 }.on (s.dk.shorten 0 (scanC s.dk.f0).2)) (scanL s.dk.f0)) :
    Calls Tryz.prog 43 #[.pointer (some ⟨b, 0, none⟩)] w fun e w' => e = .returned (.int .i64 0) /\ ∃ bm ov, HS w' w.heap.size b { (scanL s.dk.f0).foldl Sh.doR ({ s with ct := 0 }.on (s.dk.shorten 0 (scanC s.dk.f0).2)) with up := true } bd bm ov /\ At w' bd (s.dk.shorten 0 (scanC s.dk.f0).2).cells /\ w.heap.size <= bm /\ Only w w' (fun j => j = b ∨ j = bd) := by
  have H := Hid.mk' h
  have OK := Hid.mk' ok
  have JJ := Hid.mk' hj
  have HG := Hid.mk' (decide_eq_false hg)
  clear hg
  have hbl := h.lt
  have hdl := hd.lt
  have hsf := run_store_float
  have c5 := h.c 5 _ rfl
  have c4 := h.c 4 _ rfl
  have c6 := h.c 6 _ rfl
  have f6 := h.f 6
  rw [hu] at c5
  have A1 := Hid.mk' (h.put 6 (.int .i64 0) (by simp [Sh.cells]))
  have O1 := Hid.mk' (Only.set w b 6 (.int .i64 0))
  have D1 := Hid.mk' (hd.only O1.out hne)
  have a4 := A1.out.c 4 _ rfl
  have l0 := ok.b0
  have l1 := ok.b1
  clear h hd ok hj
  go_enter Tryz.func43, Tryz.ntmps43
  go_wp2_with fail
  refine Calls.mono (dkFile_any bd s.dk 0 _ D1.out (by omega)) ?_
  rintro e w1 ⟨rfl, rfl⟩
  go_wp2_with fail
  refine Calls.mono (scanAll_any s.dk.f0 _ (by omega)) ?_
  rintro e w2 ⟨v0, rs0, rfl, q0, e0, g2⟩
  have Q0 := Hid.mk' q0
  have E0 := Hid.mk' e0
  have G2 := Hid.mk' g2
  have b4 := (A1.out.grown g2).c 4 _ rfl
  clear q0 e0 g2
  go_wp2_with fail
  refine Calls.mono (dkFile_any bd s.dk 1 _ (D1.out.grown G2.out) (by omega)) ?_
  rintro e w3 ⟨rfl, rfl⟩
  go_wp2_with fail
  refine Calls.mono (scanAll_any s.dk.f1 _ (by omega)) ?_
  rintro e w4 ⟨v1, rs1, rfl, q1, e1, g4⟩
  have Q1 := Hid.mk' q1
  have E1 := Hid.mk' e1
  have G4 := Hid.mk' g4
  have Q0' := Hid.mk' (Q0.out.grown g4)
  clear q1 e1 g4
  obtain ⟨a0, n0, rfl⟩ := slice_len Q0.out.row
  obtain ⟨a1, n1, rfl⟩ := slice_len Q1.out.row
  have lr0 : rs0.length <= 1000000 := by have := scanL_len' s.dk.f0; rw [<- E0.out] at this; simp at this; omega
  have lr1 : rs1.length <= 1000000 := by have := scanL_len' s.dk.f1; rw [<- E1.out] at this; simp at this; omega
  go_wp2_with fail
  refine Calls.mono (generation_any _ _ rs1 _ Q1.out.row lr1) ?_
  rintro e w5 ⟨rfl, rfl⟩
  go_wp2_with fail
  refine Calls.mono (generation_any _ _ rs0 _ Q0'.out.row lr0) ?_
  rintro e w6 ⟨rfl, rfl⟩
  rw [E0.out, E1.out]
  have hg' := HG.out
  have A6 := Hid.mk' ((A1.out.grown G2.out).grown G4.out)
  have D6 := Hid.mk' ((D1.out.grown G2.out).grown G4.out)
  have O6 := Hid.mk' (((O1.out.mono (A' := fun j => j = b) (fun _ _ e => e)).trans ((Only.grown (G2.out.trans G4.out)).mono (by simp))))
  have A7 := A6
  have O7 := O6
  have D7 := D6
  have Q7 := Hid.mk' (Q0'.out.base (B' := w.heap.size) (by simp))
  have E7 := E0
  clear E0 E1 Q0 Q0' Q1 A6 D6 A1 D1 lr1
  go_wp2_with fail
  have A8 : At w6.drew b (({ s with ct := 0 } : Sh).cells bd (.map none) (.slice none 0 0)) := A7.out.drew
  refine wp_region_held_drew (S := fun w' => At w' b (({ s with ct := 0 } : Sh).cells bd (.map none) (.slice none 0 0))) (by kernel_rfl) (A8) (fun hHeld => ?_)
  refine hTk 0 ?_
  simp only [lS0, lS1]
  refine hTk 1 ?_
  simp only [lS0, lS1]
  refine hTk 2 ?_
  simp only [lS0, lS1]
  refine hTy 3 rfl (by intro w hSw; have S4 := hSw.c 4 _ rfl; go_simp; try with_reducible rfl) ?_
  simp only [lS0, lS1]
  refine hTk 4 ?_
  simp only [lS0, lS1]
  refine hTk 5 ?_
  simp only [lS0, lS1]
  refine hTk 6 ?_
  simp only [lS0, lS1]
  refine hTy 7 rfl (by intro w hSw; have S6 := hSw.c 6 _ rfl; go_simp; try with_reducible rfl) ?_
  simp only [lS0, lS1]
  refine hTk 8 ?_
  simp only [lS0, lS1]
  refine hCall 9 (f := 88) (args := #[.pointer (some ⟨bd, 0, none⟩), .int .i64 0, .int .i64 (scanC s.dk.f0).2]) (by kernel_rfl) (by rfl) (by rfl) (by go_simp) ?_
  refine Calls.mono (dkShorten_any bd s.dk 0 (scanC s.dk.f0).2 _ D7.out.drew (by omega) (scanC_le s.dk.f0) l0) ?_
  rintro e w8 ⟨rfl, d8, o8⟩
  have A9 := A8.only o8 (fun e => hne e.symm)
  clear hHeld
  have hHeld := A9
  refine ⟨_, rfl, hHeld, ?_⟩
  simp only [lS0, lS1]
  refine wpAnyH_done (by kernel_rfl) ?_ _
  have o9 : Only w6 w8 (fun j => j = bd) := ((Only.refl w6 (fun j => j = bd)).drew).trans (o8.mono (fun _ _ e => .inl e))
  have C9 := Q7.out.only o9 (fun j hj e => by omega)
  have RO := Hid.mk' (show Ro w w8 b bd ({ s with ct := 0 }.on (s.dk.shorten 0 (scanC s.dk.f0).2)) (.slice a0 rs0.length n0) rs0 0 from ⟨C9.row, d8, (O7.out.mono (fun _ _ e => .inl e)).trans (o9.mono (fun _ _ e => .inl (.inr e))), fun _ => ⟨A9, C9⟩, by omega⟩)
  have SL : Hid (∀ r ∈ rs0, (∃ a k m, r.vi = .slice a k m) /\ (∃ a k m, r.vo = .slice a k m)) := Hid.mk' fun r hr => by
    obtain ⟨x, y, h1⟩ := slice_len (C9.oi r hr)
    obtain ⟨x', y', h2⟩ := slice_len (C9.oo r hr)
    exact ⟨⟨_, _, _, h1⟩, ⟨_, _, _, h2⟩⟩
  have zz := (O7.out.size)
  clear A7 D7 Q7 O7 A8 A9 C9 d8 o8 o9 hHeld hg' HG c4 c5 c6 f6 a4 b4
  generalize hS0 : ({ s with ct := 0 }.on (s.dk.shorten 0 (scanC s.dk.f0).2)) = s0 at *
  rw [<- E7.out] at JJ
  have hpos : 0 < rs0.length := by simpa using JJ.out.pos
  obtain ⟨n, hnn⟩ : ∃ n, rs0.length = n := ⟨_, rfl⟩
  have HNN := Hid.mk' hnn
  rw [hnn] at RO hpos lr0 ⊢
  clear hnn
  go_wp2_with fail
  go_loopw [56] (fun t wr => ∃ k : Nat, k <= n /\ t = .int .i64 k /\ Ro w wr b bd s0 (.slice a0 n n0) rs0 k) (fun t _ => n - (intOf t).toNat)
  case atStart => exact ⟨0, by omega, rfl, RO.out⟩
  case round =>
    obtain ⟨k, hk, rfl, hro⟩ := hrel
    have HRO := Hid.mk' hro
    have zr := hro.on.size
    clear hro
    by_cases hlt : k < n
    · have hkl : k < rs0.length := by rw [HNN.out]; exact hlt
      obtain ⟨g, rfl⟩ : ∃ g, a0 = some ⟨g, 0, none⟩ := by
        rcases HRO.out.row.2 with ⟨h', hn0⟩ | ⟨g, cap, cur, h', _⟩
        · have := HNN.out; omega
        · injection h' with h1 h2 h3
          exact ⟨g, h1⟩
      have hrow : wr.ownsRow w.heap.size 139 13 (.slice (some ⟨g, 0, none⟩) n n0) n (rs0.flatMap Rw.cells) := by
        have := HRO.out.row
        rw [HNN.out] at this
        exact this
      obtain ⟨x, hx⟩ : ∃ x, rs0[k] = x := ⟨_, rfl⟩
      have hxm : x ∈ rs0 := by rw [<- hx]; exact List.getElem_mem hkl
      obtain ⟨⟨xa, xk, xm, hvi⟩, ⟨ya, yk, ym, hvo⟩⟩ := SL.out x hxm
      have d : ∀ j (hj : j < 13) u, x.cells[j]? = some u -> wr.cell? ⟨g, k * 13 + j, none⟩ = some u := fun j hj u hu => by
        refine (hrow.cellAt (k * 13 + j) (by omega)).trans ?_
        rw [Nat.mul_comm k 13, flat_at13' rs0 k j hkl hj, hx]
        exact hu
      have d0 := d 0 (by omega) _ rfl
      have d1 := d 1 (by omega) _ rfl
      have d2 := d 2 (by omega) _ rfl
      have d3 := d 3 (by omega) _ rfl
      have d4 := d 4 (by omega) _ rfl
      have d5 := d 5 (by omega) _ rfl
      have d6 := d 6 (by omega) _ rfl
      have d7 := d 7 (by omega) _ rfl
      have d8 := d 8 (by omega) _ rfl
      have d9 := d 9 (by omega) _ rfl
      have d10 := d 10 (by omega) _ rfl
      have d11 := d 11 (by omega) _ rfl
      have d12 := d 12 (by omega) _ rfl
      rw [Nat.add_zero] at d0
      rw [hvi] at d11
      rw [hvo] at d12
      have HX := Hid.mk' hx
      clear d hx hxm hrow
      have y0 : (0 : Int) <= (k : Int) := by omega
      have y1 : (k : Int) < (n : Int) := by omega
      by_cases hz : k = 0
      · subst hz
        obtain ⟨zA, zC⟩ := HRO.out.z rfl
        have hx0 := HX.out
        have hb0 := JJ.out.base (by simpa using hkl)
        rw [List.getElem_map, hx0] at hb0
        have hx1 : x ∈ rs0 := by rw [<- hx0]; exact List.getElem_mem hkl
        have oi := zC.oi x hx1
        have oo := zC.oo x hx1
        rw [hvi] at oi
        rw [hvo] at oo
        have ONB : Hid ((Value.slice ya yk ym).ownBlock ≠ some b) := Hid.mk' fun e => by have := (OwnE.lt oo b e).1; omega
        have GA := Hid.mk' (World.grownBy_alloc wr (.cells #[.int .i64 6, .int .i64 x.p.seq, .int .i64 x.p.it.sh, .int .i64 x.p.it.nu, .float .f32 x.p.it.pl, .float .f32 x.p.it.sp, .int .i64 x.p.mks.g, .int .i64 x.p.mks.m, .int .i64 x.p.mks.s, .int .i64 x.p.mks.a, .int .i64 x.p.mks.n, .slice xa xk xm, .slice ya yk ym] 139) none)
        have DB := Hid.mk' (doBase_any w.heap.size b bd (.map none) (.slice none 0 0) s0 x.p.seq x.p.it x.p.mks x.p.items x.p.outs (.slice xa xk xm) (.slice ya yk ym) _ (zA.grown GA.out) (LiesI_of ((Only.grown GA.out).own oi (by simp))) ((Only.grown GA.out).own oo (by simp)) (Nat.le_trans zr GA.out.size) hb0.2.2 hb0.2.1 ONB.out)
        have hk6 := hb0.1
        rw [hk6] at d0
        clear zA zC oi oo hb0 hx0 hx1
        unfold rv at DB
        go_wp2_with fail
        refine Calls.mono DB.out ?_
        rintro e w3 ⟨rfl, bm, h3, o3, hm3⟩
        have H3 := Hid.mk' h3
        have O3 := Hid.mk' o3
        have M3 := Hid.mk' hm3
        clear h3 o3 hm3
        go_wp2
        refine ⟨⟨1, by omega, by go_num, HRO.out.first hbl hne hkl (bm := bm) ?_ O3.out M3.out⟩, by simp [intOf]; omega⟩
        rw [HX.out, hvo]
        have : s0.doR x.p = s0.doBase x.p.mks x.p.items x.p.outs := by unfold Sh.doR; rw [if_pos hk6]
        rw [this]
        exact H3.out
      · obtain ⟨bm, ov, h0, hbm, hvb, hvo'⟩ := HRO.out.p (by omega)
        have hx0 := HX.out
        have dok := JJ.out.at (k := k) (by omega) (by simpa using hkl)
        rw [List.getElem_map, hx0] at dok
        have GA := Hid.mk' (World.grownBy_alloc wr (.cells #[.int .i64 x.p.kind, .int .i64 x.p.seq, .int .i64 x.p.it.sh, .int .i64 x.p.it.nu, .float .f32 x.p.it.pl, .float .f32 x.p.it.sp, .int .i64 x.p.mks.g, .int .i64 x.p.mks.m, .int .i64 x.p.mks.s, .int .i64 x.p.mks.a, .int .i64 x.p.mks.n, .slice xa xk xm, .slice ya yk ym] 139) none)
        have DB := Hid.mk' (do_any w.heap.size b bd bm ov _ x.p xa ya xk xm yk ym _ (h0.grown GA.out) dok)
        have HH0 := Hid.mk' h0
        have HVB := Hid.mk' (And.intro hbm (And.intro hvb hvo'))
        clear h0 hbm hvb hvo' dok hx0
        unfold rv at DB
        go_wp2_with fail
        refine Calls.mono DB.out ?_
        rintro e w3 ⟨rfl, ov3, h3, o3, v3⟩
        have H3 := Hid.mk' h3
        have O3 := Hid.mk' o3
        have V3 := Hid.mk' v3
        clear h3 o3 v3
        go_wp2
        refine ⟨⟨k + 1, by omega, by go_num, HRO.out.next hbl hdl hne hkl HH0.out HVB.out.1 HVB.out.2.1 HVB.out.2.2 ?_ O3.out V3.out⟩, by simp [intOf]; omega⟩
        rw [HX.out]
        exact H3.out
    · have hkn : k = n := by omega
      subst hkn
      obtain ⟨bm, ov, h0, hbm, hvb, hvo'⟩ := HRO.out.p (by omega)
      rw [List.take_of_length_le (by rw [List.length_map, HNN.out]; exact Nat.le_refl _), E7.out] at h0
      subst hS0
      have e5 := h0.at_.c 5 _ rfl
      have f5 := h0.at_.f 5
      have A5 := Hid.mk' (h0.at_.put 5 (.bool true) (by simp [Sh.cells]))
      have O5 := Hid.mk' (Only.set wr b 5 (.bool true))
      have HH0 := Hid.mk' h0
      have HBM := Hid.mk' hbm
      clear h0 hbm hvb hvo'
      go_wp2
      go_ret
      refine ⟨rfl, bm, ov, ⟨A5.out, HH0.out.mp.only O5.out HH0.out.n2, O5.out.own HH0.out.ob (fun j hj e => HH0.out.n1 (by rw [<- e]; exact hj)), HH0.out.n1, HH0.out.n2, HH0.out.n3, Nat.le_trans HH0.out.hB O5.out.size⟩, ?_, HBM.out, HRO.out.on.trans (O5.out.mono (fun _ _ e => .inl (.inl e)))⟩
      exact HRO.out.dk.only O5.out hne
theorem restart_1 (b bd : Nat) (s : Sh) (w : World) (h : At w b (s.cells bd (.map none) (.slice none 0 0))) (hd : At w bd s.dk.cells) (ok : s.dk.Ok) (hne : bd ≠ b) (hu : s.up = false) (hg : genOf (scanL s.dk.f0) < genOf (scanL s.dk.f1)) (hj : Jnl ({ s with ct := 1 }.on (s.dk.shorten 1 (scanC s.dk.f1).2)) (scanL s.dk.f1)) :
    Calls Tryz.prog 43 #[.pointer (some ⟨b, 0, none⟩)] w fun e w' => e = .returned (.int .i64 0) /\ ∃ bm ov, HS w' w.heap.size b { (scanL s.dk.f1).foldl Sh.doR ({ s with ct := 1 }.on (s.dk.shorten 1 (scanC s.dk.f1).2)) with up := true } bd bm ov /\ At w' bd (s.dk.shorten 1 (scanC s.dk.f1).2).cells /\ w.heap.size <= bm /\ Only w w' (fun j => j = b ∨ j = bd) := by
  have H := Hid.mk' h
  have OK := Hid.mk' ok
  have JJ := Hid.mk' hj
  have HG := Hid.mk' (decide_eq_true hg)
  clear hg
  have hbl := h.lt
  have hdl := hd.lt
  have hsf := run_store_float
  have c5 := h.c 5 _ rfl
  have c4 := h.c 4 _ rfl
  have c6 := h.c 6 _ rfl
  have f6 := h.f 6
  rw [hu] at c5
  have A1 := Hid.mk' (h.put 6 (.int .i64 0) (by simp [Sh.cells]))
  have O1 := Hid.mk' (Only.set w b 6 (.int .i64 0))
  have D1 := Hid.mk' (hd.only O1.out hne)
  have a4 := A1.out.c 4 _ rfl
  have l0 := ok.b0
  have l1 := ok.b1
  clear h hd ok hj
  go_enter Tryz.func43, Tryz.ntmps43
  go_wp2_with fail
  refine Calls.mono (dkFile_any bd s.dk 0 _ D1.out (by omega)) ?_
  rintro e w1 ⟨rfl, rfl⟩
  go_wp2_with fail
  refine Calls.mono (scanAll_any s.dk.f0 _ (by omega)) ?_
  rintro e w2 ⟨v0, rs0, rfl, q0, e0, g2⟩
  have Q0 := Hid.mk' q0
  have E0 := Hid.mk' e0
  have G2 := Hid.mk' g2
  have b4 := (A1.out.grown g2).c 4 _ rfl
  clear q0 e0 g2
  go_wp2_with fail
  refine Calls.mono (dkFile_any bd s.dk 1 _ (D1.out.grown G2.out) (by omega)) ?_
  rintro e w3 ⟨rfl, rfl⟩
  go_wp2_with fail
  refine Calls.mono (scanAll_any s.dk.f1 _ (by omega)) ?_
  rintro e w4 ⟨v1, rs1, rfl, q1, e1, g4⟩
  have Q1 := Hid.mk' q1
  have E1 := Hid.mk' e1
  have G4 := Hid.mk' g4
  have Q0' := Hid.mk' (Q0.out.grown g4)
  clear q1 e1 g4
  obtain ⟨a0, n0, rfl⟩ := slice_len Q0.out.row
  obtain ⟨a1, n1, rfl⟩ := slice_len Q1.out.row
  have lr0 : rs0.length <= 1000000 := by have := scanL_len' s.dk.f0; rw [<- E0.out] at this; simp at this; omega
  have lr1 : rs1.length <= 1000000 := by have := scanL_len' s.dk.f1; rw [<- E1.out] at this; simp at this; omega
  go_wp2_with fail
  refine Calls.mono (generation_any _ _ rs1 _ Q1.out.row lr1) ?_
  rintro e w5 ⟨rfl, rfl⟩
  go_wp2_with fail
  refine Calls.mono (generation_any _ _ rs0 _ Q0'.out.row lr0) ?_
  rintro e w6 ⟨rfl, rfl⟩
  rw [E0.out, E1.out]
  have hg' := HG.out
  have A6 := Hid.mk' ((A1.out.grown G2.out).grown G4.out)
  have D6 := Hid.mk' ((D1.out.grown G2.out).grown G4.out)
  have O6 := Hid.mk' (((O1.out.mono (A' := fun j => j = b) (fun _ _ e => e)).trans ((Only.grown (G2.out.trans G4.out)).mono (by simp))))
  have f66 := A6.out.f 6
  have c66 := A6.out.c 6 _ rfl
  have A7 := Hid.mk' (A6.out.put 6 (.int .i64 1) (by simp [Sh.cells]))
  have O7 := Hid.mk' (O6.out.trans ((Only.set w6 b 6 (.int .i64 1)).mono (fun _ _ e => .inl e)))
  have D7 := Hid.mk' (D6.out.only (Only.set w6 b 6 (.int .i64 1)) hne)
  have Q7 := Hid.mk' ((Q1.out.base (B' := w.heap.size) (by have := G2.out.size; simpa using this)).only (Only.set w6 b 6 (.int .i64 1)) (fun j hj e => by omega))
  have E7 := E1
  clear E0 E1 Q0 Q0' Q1 A6 D6 A1 D1 lr0
  generalize hW : w6.setCell ⟨b, 6, none⟩ (.int .i64 1) = W at *
  go_wp2_with fail
  have A8 : At W.drew b (({ s with ct := 1 } : Sh).cells bd (.map none) (.slice none 0 0)) := A7.out.drew
  refine wp_region_held_drew (S := fun w' => At w' b (({ s with ct := 1 } : Sh).cells bd (.map none) (.slice none 0 0))) (by kernel_rfl) (A8) (fun hHeld => ?_)
  refine hTk 0 ?_
  simp only [lS0, lS1]
  refine hTk 1 ?_
  simp only [lS0, lS1]
  refine hTk 2 ?_
  simp only [lS0, lS1]
  refine hTy 3 rfl (by intro w hSw; have S4 := hSw.c 4 _ rfl; go_simp; try with_reducible rfl) ?_
  simp only [lS0, lS1]
  refine hTk 4 ?_
  simp only [lS0, lS1]
  refine hTk 5 ?_
  simp only [lS0, lS1]
  refine hTk 6 ?_
  simp only [lS0, lS1]
  refine hTy 7 rfl (by intro w hSw; have S6 := hSw.c 6 _ rfl; go_simp; try with_reducible rfl) ?_
  simp only [lS0, lS1]
  refine hTk 8 ?_
  simp only [lS0, lS1]
  refine hCall 9 (f := 88) (args := #[.pointer (some ⟨bd, 0, none⟩), .int .i64 1, .int .i64 (scanC s.dk.f1).2]) (by kernel_rfl) (by rfl) (by rfl) (by go_simp) ?_
  refine Calls.mono (dkShorten_any bd s.dk 1 (scanC s.dk.f1).2 _ D7.out.drew (by omega) (scanC_le s.dk.f1) l1) ?_
  rintro e w8 ⟨rfl, d8, o8⟩
  have A9 := A8.only o8 (fun e => hne e.symm)
  clear hHeld
  have hHeld := A9
  refine ⟨_, rfl, hHeld, ?_⟩
  simp only [lS0, lS1]
  refine wpAnyH_done (by kernel_rfl) ?_ _
  have o9 : Only W w8 (fun j => j = bd) := ((Only.refl W (fun j => j = bd)).drew).trans (o8.mono (fun _ _ e => .inl e))
  have C9 := Q7.out.only o9 (fun j hj e => by omega)
  have RO := Hid.mk' (show Ro w w8 b bd ({ s with ct := 1 }.on (s.dk.shorten 1 (scanC s.dk.f1).2)) (.slice a1 rs1.length n1) rs1 0 from ⟨C9.row, d8, (O7.out.mono (fun _ _ e => .inl e)).trans (o9.mono (fun _ _ e => .inl (.inr e))), fun _ => ⟨A9, C9⟩, by omega⟩)
  have SL : Hid (∀ r ∈ rs1, (∃ a k m, r.vi = .slice a k m) /\ (∃ a k m, r.vo = .slice a k m)) := Hid.mk' fun r hr => by
    obtain ⟨x, y, h1⟩ := slice_len (C9.oi r hr)
    obtain ⟨x', y', h2⟩ := slice_len (C9.oo r hr)
    exact ⟨⟨_, _, _, h1⟩, ⟨_, _, _, h2⟩⟩
  have zz := (O7.out.size)
  clear A7 D7 Q7 O7 A8 A9 C9 d8 o8 o9 hHeld hg' HG c4 c5 c6 f6 a4 b4
  generalize hS0 : ({ s with ct := 1 }.on (s.dk.shorten 1 (scanC s.dk.f1).2)) = s0 at *
  rw [<- E7.out] at JJ
  have hpos : 0 < rs1.length := by simpa using JJ.out.pos
  obtain ⟨n, hnn⟩ : ∃ n, rs1.length = n := ⟨_, rfl⟩
  have HNN := Hid.mk' hnn
  rw [hnn] at RO hpos lr1 ⊢
  clear hnn
  go_wp2_with fail
  go_loopw [56] (fun t wr => ∃ k : Nat, k <= n /\ t = .int .i64 k /\ Ro w wr b bd s0 (.slice a1 n n1) rs1 k) (fun t _ => n - (intOf t).toNat)
  case atStart => exact ⟨0, by omega, rfl, RO.out⟩
  case round =>
    obtain ⟨k, hk, rfl, hro⟩ := hrel
    have HRO := Hid.mk' hro
    have zr := hro.on.size
    clear hro
    by_cases hlt : k < n
    · have hkl : k < rs1.length := by rw [HNN.out]; exact hlt
      obtain ⟨g, rfl⟩ : ∃ g, a1 = some ⟨g, 0, none⟩ := by
        rcases HRO.out.row.2 with ⟨h', hn0⟩ | ⟨g, cap, cur, h', _⟩
        · have := HNN.out; omega
        · injection h' with h1 h2 h3
          exact ⟨g, h1⟩
      have hrow : wr.ownsRow w.heap.size 139 13 (.slice (some ⟨g, 0, none⟩) n n1) n (rs1.flatMap Rw.cells) := by
        have := HRO.out.row
        rw [HNN.out] at this
        exact this
      obtain ⟨x, hx⟩ : ∃ x, rs1[k] = x := ⟨_, rfl⟩
      have hxm : x ∈ rs1 := by rw [<- hx]; exact List.getElem_mem hkl
      obtain ⟨⟨xa, xk, xm, hvi⟩, ⟨ya, yk, ym, hvo⟩⟩ := SL.out x hxm
      have d : ∀ j (hj : j < 13) u, x.cells[j]? = some u -> wr.cell? ⟨g, k * 13 + j, none⟩ = some u := fun j hj u hu => by
        refine (hrow.cellAt (k * 13 + j) (by omega)).trans ?_
        rw [Nat.mul_comm k 13, flat_at13' rs1 k j hkl hj, hx]
        exact hu
      have d0 := d 0 (by omega) _ rfl
      have d1 := d 1 (by omega) _ rfl
      have d2 := d 2 (by omega) _ rfl
      have d3 := d 3 (by omega) _ rfl
      have d4 := d 4 (by omega) _ rfl
      have d5 := d 5 (by omega) _ rfl
      have d6 := d 6 (by omega) _ rfl
      have d7 := d 7 (by omega) _ rfl
      have d8 := d 8 (by omega) _ rfl
      have d9 := d 9 (by omega) _ rfl
      have d10 := d 10 (by omega) _ rfl
      have d11 := d 11 (by omega) _ rfl
      have d12 := d 12 (by omega) _ rfl
      rw [Nat.add_zero] at d0
      rw [hvi] at d11
      rw [hvo] at d12
      have HX := Hid.mk' hx
      clear d hx hxm hrow
      have y0 : (0 : Int) <= (k : Int) := by omega
      have y1 : (k : Int) < (n : Int) := by omega
      by_cases hz : k = 0
      · subst hz
        obtain ⟨zA, zC⟩ := HRO.out.z rfl
        have hx0 := HX.out
        have hb0 := JJ.out.base (by simpa using hkl)
        rw [List.getElem_map, hx0] at hb0
        have hx1 : x ∈ rs1 := by rw [<- hx0]; exact List.getElem_mem hkl
        have oi := zC.oi x hx1
        have oo := zC.oo x hx1
        rw [hvi] at oi
        rw [hvo] at oo
        have ONB : Hid ((Value.slice ya yk ym).ownBlock ≠ some b) := Hid.mk' fun e => by have := (OwnE.lt oo b e).1; omega
        have GA := Hid.mk' (World.grownBy_alloc wr (.cells #[.int .i64 6, .int .i64 x.p.seq, .int .i64 x.p.it.sh, .int .i64 x.p.it.nu, .float .f32 x.p.it.pl, .float .f32 x.p.it.sp, .int .i64 x.p.mks.g, .int .i64 x.p.mks.m, .int .i64 x.p.mks.s, .int .i64 x.p.mks.a, .int .i64 x.p.mks.n, .slice xa xk xm, .slice ya yk ym] 139) none)
        have DB := Hid.mk' (doBase_any w.heap.size b bd (.map none) (.slice none 0 0) s0 x.p.seq x.p.it x.p.mks x.p.items x.p.outs (.slice xa xk xm) (.slice ya yk ym) _ (zA.grown GA.out) (LiesI_of ((Only.grown GA.out).own oi (by simp))) ((Only.grown GA.out).own oo (by simp)) (Nat.le_trans zr GA.out.size) hb0.2.2 hb0.2.1 ONB.out)
        have hk6 := hb0.1
        rw [hk6] at d0
        clear zA zC oi oo hb0 hx0 hx1
        unfold rv at DB
        go_wp2_with fail
        refine Calls.mono DB.out ?_
        rintro e w3 ⟨rfl, bm, h3, o3, hm3⟩
        have H3 := Hid.mk' h3
        have O3 := Hid.mk' o3
        have M3 := Hid.mk' hm3
        clear h3 o3 hm3
        go_wp2
        refine ⟨⟨1, by omega, by go_num, HRO.out.first hbl hne hkl (bm := bm) ?_ O3.out M3.out⟩, by simp [intOf]; omega⟩
        rw [HX.out, hvo]
        have : s0.doR x.p = s0.doBase x.p.mks x.p.items x.p.outs := by unfold Sh.doR; rw [if_pos hk6]
        rw [this]
        exact H3.out
      · obtain ⟨bm, ov, h0, hbm, hvb, hvo'⟩ := HRO.out.p (by omega)
        have hx0 := HX.out
        have dok := JJ.out.at (k := k) (by omega) (by simpa using hkl)
        rw [List.getElem_map, hx0] at dok
        have GA := Hid.mk' (World.grownBy_alloc wr (.cells #[.int .i64 x.p.kind, .int .i64 x.p.seq, .int .i64 x.p.it.sh, .int .i64 x.p.it.nu, .float .f32 x.p.it.pl, .float .f32 x.p.it.sp, .int .i64 x.p.mks.g, .int .i64 x.p.mks.m, .int .i64 x.p.mks.s, .int .i64 x.p.mks.a, .int .i64 x.p.mks.n, .slice xa xk xm, .slice ya yk ym] 139) none)
        have DB := Hid.mk' (do_any w.heap.size b bd bm ov _ x.p xa ya xk xm yk ym _ (h0.grown GA.out) dok)
        have HH0 := Hid.mk' h0
        have HVB := Hid.mk' (And.intro hbm (And.intro hvb hvo'))
        clear h0 hbm hvb hvo' dok hx0
        unfold rv at DB
        go_wp2_with fail
        refine Calls.mono DB.out ?_
        rintro e w3 ⟨rfl, ov3, h3, o3, v3⟩
        have H3 := Hid.mk' h3
        have O3 := Hid.mk' o3
        have V3 := Hid.mk' v3
        clear h3 o3 v3
        go_wp2
        refine ⟨⟨k + 1, by omega, by go_num, HRO.out.next hbl hdl hne hkl HH0.out HVB.out.1 HVB.out.2.1 HVB.out.2.2 ?_ O3.out V3.out⟩, by simp [intOf]; omega⟩
        rw [HX.out]
        exact H3.out
    · have hkn : k = n := by omega
      subst hkn
      obtain ⟨bm, ov, h0, hbm, hvb, hvo'⟩ := HRO.out.p (by omega)
      rw [List.take_of_length_le (by rw [List.length_map, HNN.out]; exact Nat.le_refl _), E7.out] at h0
      subst hS0
      have e5 := h0.at_.c 5 _ rfl
      have f5 := h0.at_.f 5
      have A5 := Hid.mk' (h0.at_.put 5 (.bool true) (by simp [Sh.cells]))
      have O5 := Hid.mk' (Only.set wr b 5 (.bool true))
      have HH0 := Hid.mk' h0
      have HBM := Hid.mk' hbm
      clear h0 hbm hvb hvo'
      go_wp2
      go_ret
      refine ⟨rfl, bm, ov, ⟨A5.out, HH0.out.mp.only O5.out HH0.out.n2, O5.out.own HH0.out.ob (fun j hj e => HH0.out.n1 (by rw [<- e]; exact hj)), HH0.out.n1, HH0.out.n2, HH0.out.n3, Nat.le_trans HH0.out.hB O5.out.size⟩, ?_, HBM.out, HRO.out.on.trans (O5.out.mono (fun _ _ e => .inl (.inl e)))⟩
      exact HRO.out.dk.only O5.out hne
def Dk.choice (d : Dk) : Nat := if genOf (scanL d.f0) < genOf (scanL d.f1) then 1 else 0
def Sh.begun (s : Sh) : Sh := { s with ct := s.dk.choice }.on (s.dk.shorten s.dk.choice (scanC (s.dk.file s.dk.choice)).2)
def Sh.restart (s : Sh) : Sh := { (scanL (s.dk.file s.dk.choice)).foldl Sh.doR s.begun with up := true }
theorem dos_up (l : List Rc) : ∀ s : Sh, (l.foldl Sh.doR s).up = s.up /\ (l.foldl Sh.doR s).dk = s.dk /\ (l.foldl Sh.doR s).ct = s.ct /\ (l.foldl Sh.doR s).no = s.no /\ (l.foldl Sh.doR s).cI = s.cI /\ (l.foldl Sh.doR s).cO = s.cO /\ (l.foldl Sh.doR s).cJ = s.cJ := by
  induction l with
  | nil => intro s; exact ⟨rfl, rfl, rfl, rfl, rfl, rfl, rfl⟩
  | cons x l ih =>
    intro s
    obtain ⟨a1, a2, a3, a4, a5, a6, a7⟩ := ih (s.doR x)
    obtain ⟨b1, b2, b3, b4, b5, b6, b7⟩ := doR_up s x
    exact ⟨a1.trans b1, a2.trans b2, a3.trans b3, a4.trans b4, a5.trans b5, a6.trans b6, a7.trans b7⟩
theorem Dk.Ok.shorten {d : Dk} (ok : d.Ok) (c k : Nat) (hk : k <= (d.file c).length) : (d.shorten c k).Ok := by
  refine ok.put c _ _ ?_ ?_
  · rw [List.length_take]; omega
  · rw [List.length_take]
    unfold Dk.file
    split
    · have := ok.b0; omega
    · have := ok.b1; omega
theorem restart_ps (b : Nat) (s : Sh) (F : Nat -> Prop) (w : World) (h : PS w b s F) (hu : s.up = false) (hj : Jnl s.begun (scanL (s.dk.file s.dk.choice))) :
    Calls Tryz.prog 43 #[.pointer (some ⟨b, 0, none⟩)] w fun e w' => e = .returned (.int .i64 0) /\ PS w' b s.restart (NX w w' F) /\ Only w w' F := by
  obtain ⟨bd, ⟨hu', _⟩ | ⟨_, p⟩⟩ := h
  · rw [hu] at hu'; cases hu'
  have fin : ∀ (c : Nat), s.dk.choice = c -> ∀ (e : Ending) (w' : World), (e = .returned (.int .i64 0) /\ ∃ bm ov, HS w' w.heap.size b { (scanL (s.dk.file c)).foldl Sh.doR ({ s with ct := c }.on (s.dk.shorten c (scanC (s.dk.file c)).2)) with up := true } bd bm ov /\ At w' bd (s.dk.shorten c (scanC (s.dk.file c)).2).cells /\ w.heap.size <= bm /\ Only w w' (fun j => j = b ∨ j = bd)) -> e = .returned (.int .i64 0) /\ PS w' b s.restart (NX w w' F) /\ Only w w' F := by
    rintro c hc e w' ⟨he, bm, ov, h1, h2, h3, o⟩
    have hdk : s.restart.dk = s.dk.shorten c (scanC (s.dk.file c)).2 := by
      unfold Sh.restart Sh.begun
      rw [hc]
      exact (dos_up _ _).2.1
    have hd := p.dk.lt
    have ol := h1.ob.lt
    have h1' : HS w' w.heap.size b s.restart bd bm ov := by
      unfold Sh.restart Sh.begun
      rw [hc]
      exact h1
    refine ⟨he, ⟨bd, .inl ⟨rfl, w.heap.size, bm, ov, ⟨h1', by rw [hdk]; exact h2, by rw [hdk]; exact p.ok.shorten c _ (scanC_le _), p.d1, by omega, fun e => by have := (ol bd e).1; omega⟩, ⟨.inl p.f1, h1.at_.lt⟩, ⟨.inl p.f2, h2.lt⟩, ⟨.inr h3, h1.mp.lt⟩, fun j hj => ⟨.inr (ol j hj).1, (ol j hj).2⟩⟩⟩, o.mono (fun j _ e => ?_)⟩
    rcases e with rfl | rfl
    · exact p.f1
    · exact p.f2
  unfold Sh.begun at hj
  by_cases hg : genOf (scanL s.dk.f0) < genOf (scanL s.dk.f1)
  · have hc : s.dk.choice = 1 := if_pos hg
    rw [hc] at hj
    exact (restart_1 b bd s w p.at_ p.dk p.ok p.d1 hu hg hj).mono (fin 1 hc)
  · have hc : s.dk.choice = 0 := if_neg hg
    rw [hc] at hj
    exact (restart_0 b bd s w p.at_ p.dk p.ok p.d1 hu hg hj).mono (fin 0 hc)
end Go.Proofs.YtammnaafdhhjaaaGreat
