/- Ytammnaafdhhjaaa: Encode and a thing at a place, by the document. -/
import Derived.Test.YtammnaafdhhjaaaJR7
namespace Go.Proofs.Ytammnaafdhhjaaa
open Go.RowKit

set_option maxHeartbeats 1000000 in
theorem refEncode_no (r : Rc) (vi vo : Value) (w : World) (hi : LiesI w vi r.items) (ho : LiesE w vo r.outs) (wf : WfIt r.it) (hni : r.items.length ≤ 1000000000) (hno : r.outs.length ≤ 1000000000) (hm : mayB r = false) :
    Calls Try.prog 10 #[rv r.kind r.seq r.it r.mks vi vo] w fun e w' => e = .returned (.tuple #[.string (S []), .int .i64 2]) ∧ w.grownBy w' none := by
  have HI := Hid.mk' hi
  have HO := Hid.mk' ho
  clear hi ho
  obtain ⟨K, s, i, m, is, es⟩ := r
  obtain ⟨ai, ci, rfl, _⟩ := HI.out
  obtain ⟨ao, co, rfl, _⟩ := HO.out
  unfold rv
  go_enter Try.func10, Try.ntmps10
  go_wp2_with fail
  refine Calls.mono (mayRef_any ⟨K, s, i, m, is, es⟩ (.slice ai is.length ci) (.slice ao es.length co) _ (HI.out.grown (World.grownBy_alloc _ _ _)) (HO.out.grown (World.grownBy_alloc _ _ _)) wf hni hno) ?_
  rw [hm]
  rintro e w1 ⟨rfl, g1⟩
  go_wp2
  go_ret2
  exact ⟨ret2_of rfl rfl, (World.grownBy_alloc w _ none).trans g1⟩

set_option maxHeartbeats 1000000 in
theorem refEncode_yes (r : Rc) (vi vo : Value) (w : World) (hi : LiesI w vi r.items) (ho : LiesE w vo r.outs) (wf : WfR r) (hni : r.items.length ≤ 1000000000) (hno : r.outs.length ≤ 1000000000) (hm : mayB r = true) :
    Calls Try.prog 10 #[rv r.kind r.seq r.it r.mks vi vo] w fun e w' => e = .returned (.tuple #[.string (S (enc r)), .int .i64 0]) ∧ w.grownBy w' none := by
  have HI := Hid.mk' hi
  have HO := Hid.mk' ho
  have hbl := body_len r hm
  have HM := Hid.mk' hm
  have hsb := sumL_bd (body r)
  have HE : Hid (enc r = body r ++ n2 (sumL (body r))) := rfl
  obtain ⟨B, hB⟩ : ∃ B, body r = B := ⟨_, rfl⟩
  have HBd := Hid.mk' hB
  rw [hB] at hbl hsb HE
  clear hi ho hm hB
  have WF := Hid.mk' wf
  clear wf
  obtain ⟨ai, ci, hvi, _⟩ := HI.out
  obtain ⟨ao, co, hvo, _⟩ := HO.out
  subst hvi hvo
  have cf := fun w' (g : w.grownBy w' none) => mayRef_any r _ _ w' (HI.out.grown g) (HO.out.grown g) WF.out.it hni hno
  have cb := fun w' (g : w.grownBy w' none) => refBody_any r _ _ w' (HI.out.grown g) (HO.out.grown g) HM.out WF.out
  rw [HM.out] at cf
  rw [HBd.out] at cb
  have CF := Hid.mk' cf
  have CB := Hid.mk' cb
  clear cf cb HI HO
  obtain ⟨E, hE⟩ : ∃ E, enc r = E := ⟨_, rfl⟩
  rw [hE] at HE ⊢
  clear hE HBd HM WF
  obtain ⟨K, s, i, m, is, es⟩ := r
  unfold rv at CF CB ⊢
  have hap := S_app
  have hsz := S_size
  have hln := beN_len
  have hb2 := Hid.mk' (beN2 (sumL B) hsb.1 (by omega))
  go_enter Try.func10, Try.ntmps10
  go_wp2_with fail
  refine Calls.mono (CF.out _ (World.grownBy_alloc _ _ _)) ?_
  rintro e w1 ⟨rfl, g1⟩
  have G1 := Hid.mk' ((World.grownBy_alloc w _ none).trans g1)
  have c0 : w1.cell? ⟨w.heap.size, 0, none⟩ = some (.int .i64 K) := g1.cell (by go_simp) (by simp)
  have c1 : w1.cell? ⟨w.heap.size, 1, none⟩ = some (.int .i64 s) := g1.cell (by go_simp) (by simp)
  have c2 : w1.cell? ⟨w.heap.size, 2, none⟩ = some (.int .i64 i.sh) := g1.cell (by go_simp) (by simp)
  have c3 : w1.cell? ⟨w.heap.size, 3, none⟩ = some (.int .i64 i.nu) := g1.cell (by go_simp) (by simp)
  have c4 : w1.cell? ⟨w.heap.size, 4, none⟩ = some (.float .f32 i.pl) := g1.cell (by go_simp) (by simp)
  have c5 : w1.cell? ⟨w.heap.size, 5, none⟩ = some (.float .f32 i.sp) := g1.cell (by go_simp) (by simp)
  have c6 : w1.cell? ⟨w.heap.size, 6, none⟩ = some (.int .i64 m.g) := g1.cell (by go_simp) (by simp)
  have c7 : w1.cell? ⟨w.heap.size, 7, none⟩ = some (.int .i64 m.m) := g1.cell (by go_simp) (by simp)
  have c8 : w1.cell? ⟨w.heap.size, 8, none⟩ = some (.int .i64 m.s) := g1.cell (by go_simp) (by simp)
  have c9 : w1.cell? ⟨w.heap.size, 9, none⟩ = some (.int .i64 m.a) := g1.cell (by go_simp) (by simp)
  have c10 : w1.cell? ⟨w.heap.size, 10, none⟩ = some (.int .i64 m.n) := g1.cell (by go_simp) (by simp)
  have c11 : w1.cell? ⟨w.heap.size, 11, none⟩ = some (.slice ai is.length ci) := g1.cell (by go_simp) (by simp)
  have c12 : w1.cell? ⟨w.heap.size, 12, none⟩ = some (.slice ao es.length co) := g1.cell (by go_simp) (by simp)
  go_wp2_with fail
  refine Calls.mono (CB.out _ G1.out) ?_
  rintro e w2 ⟨rfl, g2⟩
  go_wp2_with fail
  refine Calls.mono (refSum_any B _ (by unfold maxLen; omega)) ?_
  rintro e w3 ⟨rfl, rfl⟩
  go_wp2_with fail
  refine Calls.mono (refNumber_any (sumL B) 2 _ hsb.1 (by omega) (by omega)) ?_
  rintro e w4 ⟨rfl, g4⟩
  go_wp2
  go_ret2
  exact ⟨ret2_of (by show Value.string (S (B ++ beN 2 (sumL B))) = _; rw [hb2.out, ← HE.out]) rfl, (G1.out.trans g2).trans g4⟩

def encS (r : Rc) : List UInt8 := if mayB r = true then enc r else []
def encE (r : Rc) : Int := if mayB r = true then 0 else 2
theorem refEncode_any (r : Rc) (vi vo : Value) (w : World) (hi : LiesI w vi r.items) (ho : LiesE w vo r.outs) (wf : WfR r) (hni : r.items.length ≤ 1000000000) (hno : r.outs.length ≤ 1000000000) :
    Calls Try.prog 10 #[rv r.kind r.seq r.it r.mks vi vo] w fun e w' => e = .returned (.tuple #[.string (S (encS r)), .int .i64 (encE r)]) ∧ w.grownBy w' none := by
  unfold encS encE
  cases hm : mayB r
  · exact refEncode_no r vi vo w hi ho wf.it hni hno hm
  · exact refEncode_yes r vi vo w hi ho wf hni hno hm

/-- What the document's float gives of a pattern. -/
def fx (n : Nat) : Nat := if fin32 n = true then n else 0
def fxI (i : It) : It := ⟨i.sh, i.nu, fx i.pl, fx i.sp⟩
def okI (i : It) : Bool := fin32 i.pl && fin32 i.sp
theorem fxI_ok {i : It} (h : okI i = true) : fxI i = i := by
  simp only [okI, Bool.and_eq_true] at h
  simp [fxI, fx, h.1, h.2]
theorem fx_lt (n : Nat) (h : n < 4294967296) : fx n < 4294967296 := by unfold fx; split <;> omega
theorem okI_no {i : It} (h : okI i = false) : itB i = false := by
  rw [Bool.eq_false_iff]
  intro hb
  simp only [itB, Bool.and_eq_true] at hb
  have : okI i = true := by simp only [okI, Bool.and_eq_true]; exact ⟨near_fin hb.1.2, near_fin hb.2⟩
  rw [this] at h
  exact absurd h (by decide)
theorem fl_any (n : Nat) (w : World) (hn : n < 4294967296) :
    Calls Try.prog 76 #[.int .i64 (n : Int)] w fun e w' => e = .returned (.tuple #[.float .f32 (fx n), .bool (fin32 n)]) ∧ w' = w := by
  unfold fx
  cases hf : fin32 n
  · have hf' : ¬ n % 2147483648 < 2139095040 := of_decide_eq_false hf
    exact float_no n hn (by omega) w
  · have hf' : n % 2147483648 < 2139095040 := of_decide_eq_true hf
    exact float_yes n hn (by omega) w
theorem rd_item (l : List UInt8) (a : Nat) : pIt (l.drop a) = ⟨rdN l a 1, rdN l (a + 1) 2, (rdN l (a + 3) 4).toNat, (rdN l (a + 7) 4).toNat⟩ := by
  rw [rdN1, rdN2, rdN4, rdN4]
  have e : ∀ k, (l.drop a).drop k = l.drop (a + k) := fun k => by rw [List.drop_drop]
  simp only [pIt, t4, t2, t1_eq, List.drop_drop, Int.toNat_natCast]

theorem rd1 (l : List UInt8) (a : Nat) (w : World) (hl : l.length ≤ 1000000000) (ha : a ≤ 1000000000) :
    Calls Try.prog 32 #[.string (S l), .int .i64 (a : Int), .int .i64 1] w fun e w' => e = .returned (.int .i64 (rdN l a 1)) ∧ w' = w := refRead_any l a 1 w hl ha (by omega)
theorem rd2 (l : List UInt8) (a : Nat) (w : World) (hl : l.length ≤ 1000000000) (ha : a ≤ 1000000000) :
    Calls Try.prog 32 #[.string (S l), .int .i64 (a : Int), .int .i64 2] w fun e w' => e = .returned (.int .i64 (rdN l a 2)) ∧ w' = w := refRead_any l a 2 w hl ha (by omega)
theorem rd4 (l : List UInt8) (a : Nat) (w : World) (hl : l.length ≤ 1000000000) (ha : a ≤ 1000000000) :
    Calls Try.prog 32 #[.string (S l), .int .i64 (a : Int), .int .i64 4] w fun e w' => e = .returned (.int .i64 (((rdN l a 4).toNat : Nat) : Int)) ∧ w' = w := by
  rw [Int.toNat_of_nonneg (rdN_bd l a 4 (by omega)).1]
  exact refRead_any l a 4 w hl ha (by omega)

set_option maxHeartbeats 1000000 in
theorem refItemAt_any (l : List UInt8) (a : Nat) (w : World) (hl : l.length ≤ 1000000000) (ha : a ≤ 900000000) :
    Calls Try.prog 59 #[.string (S l), .int .i64 (a : Int)] w fun e w' => e = .returned (.tuple #[.agg #[.int .i64 (pIt (l.drop a)).sh, .int .i64 (pIt (l.drop a)).nu, .float .f32 (fx (pIt (l.drop a)).pl), .float .f32 (fx (pIt (l.drop a)).sp)], .bool (okI (pIt (l.drop a)))]) ∧ w.grownBy w' none := by
  have hsf := run_store_float
  have p3 := (rdN_bd l (a + 3) 4 (by omega))
  have p7 := (rdN_bd l (a + 7) 4 (by omega))
  have e1 : (a : Int) + 1 = ((a + 1 : Nat) : Int) := by omega
  have c0 := fun w => rd1 l a w hl (by omega)
  have c1 := fun w => rd2 l (a + 1) w hl (by omega)
  have c3 := fun w => rd4 l (a + 3) w hl (by omega)
  have c7 := fun w => rd4 l (a + 7) w hl (by omega)
  rw [show (((a + 1 : Nat)) : Int) = (a : Int) + 1 by omega] at c1
  rw [show (((a + 3 : Nat)) : Int) = (a : Int) + 3 by omega] at c3
  rw [show (((a + 7 : Nat)) : Int) = (a : Int) + 7 by omega] at c7
  rw [rd_item]
  unfold okI
  simp only
  have k3 : (rdN l (a + 3) 4).toNat < 4294967296 := by omega
  have k7 : (rdN l (a + 7) 4).toNat < 4294967296 := by omega
  generalize (rdN l (a + 3) 4).toNat = N3 at *
  generalize (rdN l (a + 7) 4).toNat = N7 at *
  generalize rdN l a 1 = N0 at *
  generalize rdN l (a + 1) 2 = N1 at *
  clear e1 p3 p7
  have C0 := Hid.mk' c0
  have C1 := Hid.mk' c1
  have C3 := Hid.mk' c3
  have C7 := Hid.mk' c7
  clear c0 c1 c3 c7
  go_enter Try.func59, Try.ntmps59
  go_wp2_with fail
  refine (C3.out _).mono ?_
  rintro e w' ⟨rfl, rfl⟩
  go_wp2_with fail
  refine (fl_any N3 _ k3).mono ?_
  rintro e w' ⟨rfl, rfl⟩
  go_wp2_with fail
  refine (C7.out _).mono ?_
  rintro e w' ⟨rfl, rfl⟩
  go_wp2_with fail
  refine (fl_any N7 _ k7).mono ?_
  rintro e w' ⟨rfl, rfl⟩
  go_wp2_with fail
  refine (C0.out _).mono ?_
  rintro e w' ⟨rfl, rfl⟩
  go_wp2_with fail
  refine (C1.out _).mono ?_
  rintro e w' ⟨rfl, rfl⟩
  go_wp2_with fail
  all_goals exact bodyPost_ret (v := .tuple #[.agg #[.int .i64 N0, .int .i64 N1, .float .f32 (fx N3), .float .f32 (fx N7)], .bool (fin32 N3 && fin32 N7)]) (by simp [results, Try.results59, go_sem, *]) rfl ⟨rfl, World.grownBy_alloc _ _ _⟩
end Go.Proofs.Ytammnaafdhhjaaa
