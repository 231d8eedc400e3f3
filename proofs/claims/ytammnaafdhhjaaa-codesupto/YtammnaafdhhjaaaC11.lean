/- Ytammnaafdhhjaaa: Codes, walked. -/
import Derived.Test.YtammnaafdhhjaaaC9
import Derived.Test.YtammnaafdhhjaaaC10
namespace Go.Proofs.Ytammnaafdhhjaaa
open Go.RowKit

theorem Lies.head {w : World} {n m c : Nat} {a : Addr} {xs ys : List Value} (h : Lies w (.slice (some a) n c) n (xs ++ ys)) (hp : 0 < m → 0 < n) : Lies w (.slice (some a) m c) m xs := by
  obtain ⟨a', c', e, hx⟩ := h
  injection e with e1 e2 e3
  subst e1 e3
  refine ⟨some a, c, rfl, fun h0 => ?_⟩
  obtain ⟨g, off, e, hc⟩ := hx (hp h0)
  refine ⟨g, off, e, fun j u hu => hc j u ?_⟩
  rw [List.getElem?_append_left (List.getElem?_eq_some_iff.1 hu).1]
  exact hu
theorem encode_any (r : Rc) (vi vo : Value) (w : World) (hi : LiesI w vi r.items) (ho : LiesE w vo r.outs) (wf : WfR r) :
    Calls Try.prog 11 #[rv r.kind r.seq r.it r.mks vi vo] w fun e w' => e = .returned (.tuple #[.string (S (encS r)), .int .i64 (encE r)]) ∧ w.grownBy w' none := by
  unfold encS encE
  cases hm : mayB r
  · exact encode_no r vi vo w hi ho hm
  · exact encode_yes r vi vo w hi ho hm wf


set_option maxHeartbeats 4000000 in
set_option maxRecDepth 100000 in
theorem codes_00 (K s : Int) (i : It) (m : Mk) (is : List It) (es : List En) (ci co : Nat) (l : List UInt8) (w : World) (hi : LiesI w (.slice none is.length ci) is) (ho : LiesE w (.slice none es.length co) es) (wf : WfR ⟨K, s, i, m, is, es⟩) (hni : is.length ≤ 1048576) (hno : es.length ≤ 1048576) (hl : l.length ≤ 1048576) :
    Calls Try.prog 3 #[rv K s i m (.slice none is.length ci) (.slice none es.length co), .string (S l)] w fun e w' => e = .returned (.bool true) ∧ w.grownBy w' none := by
  have hsf := run_store_float
  have HI := Hid.mk' hi
  have HO := Hid.mk' ho
  have WF := Hid.mk' wf
  clear hi ho wf
  unfold rv
  go_enter Try.func3, Try.ntmps3
  go_wp2_with (first | (go_at_call 6; refine Calls.mono (sum_any l _ (by unfold maxLen; omega)) ?_; rintro e w' ⟨rfl, rfl⟩) | (go_at_call 7; refine Calls.mono (refSum_any l _ (by unfold maxLen; omega)) ?_; rintro e w' ⟨rfl, rfl⟩))
  refine Calls.mono (lentItems_any (.slice none is.length ci) is _ (HI.out.grown (grownBy_two w _ _)) hni) ?_
  rintro e w1 ⟨v1, rfl, hv1, o1, g1⟩
  have hv2 : v1 = .slice (some ⟨w.heap.size + 1 + 1, 0, none⟩) (is.length + 8) (is.length + 8) := by rw [hv1]; simp
  clear hv1
  subst hv2
  have z1 := g1.size
  simp at z1
  have a_0 : w1.cell? ⟨w.heap.size, 0, none⟩ = some (.int .i64 K) := g1.cell (by go_simp) (by simp)
  have a_1 : w1.cell? ⟨w.heap.size, 1, none⟩ = some (.int .i64 s) := g1.cell (by go_simp) (by simp)
  have a_2 : w1.cell? ⟨w.heap.size, 2, none⟩ = some (.int .i64 i.sh) := g1.cell (by go_simp) (by simp)
  have a_3 : w1.cell? ⟨w.heap.size, 3, none⟩ = some (.int .i64 i.nu) := g1.cell (by go_simp) (by simp)
  have a_4 : w1.cell? ⟨w.heap.size, 4, none⟩ = some (.float .f32 i.pl) := g1.cell (by go_simp) (by simp)
  have a_5 : w1.cell? ⟨w.heap.size, 5, none⟩ = some (.float .f32 i.sp) := g1.cell (by go_simp) (by simp)
  have a_6 : w1.cell? ⟨w.heap.size, 6, none⟩ = some (.int .i64 m.g) := g1.cell (by go_simp) (by simp)
  have a_7 : w1.cell? ⟨w.heap.size, 7, none⟩ = some (.int .i64 m.m) := g1.cell (by go_simp) (by simp)
  have a_8 : w1.cell? ⟨w.heap.size, 8, none⟩ = some (.int .i64 m.s) := g1.cell (by go_simp) (by simp)
  have a_9 : w1.cell? ⟨w.heap.size, 9, none⟩ = some (.int .i64 m.a) := g1.cell (by go_simp) (by simp)
  have a_10 : w1.cell? ⟨w.heap.size, 10, none⟩ = some (.int .i64 m.n) := g1.cell (by go_simp) (by simp)
  have a_11 : w1.cell? ⟨w.heap.size, 11, none⟩ = some (.slice none is.length ci) := g1.cell (by go_simp) (by simp)
  have a_12 : w1.cell? ⟨w.heap.size, 12, none⟩ = some (.slice none es.length co) := g1.cell (by go_simp) (by simp)
  have b_0 : w1.cell? ⟨w.heap.size + 1, 0, none⟩ = some (.int .i64 K) := g1.cell (by go_simp) (by simp)
  have b_1 : w1.cell? ⟨w.heap.size + 1, 1, none⟩ = some (.int .i64 s) := g1.cell (by go_simp) (by simp)
  have b_2 : w1.cell? ⟨w.heap.size + 1, 2, none⟩ = some (.int .i64 i.sh) := g1.cell (by go_simp) (by simp)
  have b_3 : w1.cell? ⟨w.heap.size + 1, 3, none⟩ = some (.int .i64 i.nu) := g1.cell (by go_simp) (by simp)
  have b_4 : w1.cell? ⟨w.heap.size + 1, 4, none⟩ = some (.float .f32 i.pl) := g1.cell (by go_simp) (by simp)
  have b_5 : w1.cell? ⟨w.heap.size + 1, 5, none⟩ = some (.float .f32 i.sp) := g1.cell (by go_simp) (by simp)
  have b_6 : w1.cell? ⟨w.heap.size + 1, 6, none⟩ = some (.int .i64 m.g) := g1.cell (by go_simp) (by simp)
  have b_7 : w1.cell? ⟨w.heap.size + 1, 7, none⟩ = some (.int .i64 m.m) := g1.cell (by go_simp) (by simp)
  have b_8 : w1.cell? ⟨w.heap.size + 1, 8, none⟩ = some (.int .i64 m.s) := g1.cell (by go_simp) (by simp)
  have b_9 : w1.cell? ⟨w.heap.size + 1, 9, none⟩ = some (.int .i64 m.a) := g1.cell (by go_simp) (by simp)
  have b_10 : w1.cell? ⟨w.heap.size + 1, 10, none⟩ = some (.int .i64 m.n) := g1.cell (by go_simp) (by simp)
  have b_11 : w1.cell? ⟨w.heap.size + 1, 11, none⟩ = some (.slice none is.length ci) := g1.cell (by go_simp) (by simp)
  have b_12 : w1.cell? ⟨w.heap.size + 1, 12, none⟩ = some (.slice none es.length co) := g1.cell (by go_simp) (by simp)
  have fb : ∀ o, w1.frozen? ⟨w.heap.size + 1, o, none⟩ = false := fun o => by
    rw [World.frozen?_of_block (a := ⟨w.heap.size + 1, o, none⟩) (g1.block (w.heap.size + 1) (by simp) (by simp))]; go_simp
  have G1 := Hid.mk' ((grownBy_two w _ _).trans g1)
  have O1 := Hid.mk' o1
  clear o1 g1
  go_wp2_with fail
  refine Calls.mono (lentEntries_any (.slice none es.length co) es _ (HO.out.grown G1.out) hno) ?_
  rintro e w2 ⟨v2, rfl, hv2, o2, g2⟩
  subst hv2
  have z2 := g2.size
  have c_0 : w2.cell? ⟨w.heap.size, 0, none⟩ = some (.int .i64 K) := g2.cell (by go_simp) (by simp)
  have c_1 : w2.cell? ⟨w.heap.size, 1, none⟩ = some (.int .i64 s) := g2.cell (by go_simp) (by simp)
  have c_2 : w2.cell? ⟨w.heap.size, 2, none⟩ = some (.int .i64 i.sh) := g2.cell (by go_simp) (by simp)
  have c_3 : w2.cell? ⟨w.heap.size, 3, none⟩ = some (.int .i64 i.nu) := g2.cell (by go_simp) (by simp)
  have c_4 : w2.cell? ⟨w.heap.size, 4, none⟩ = some (.float .f32 i.pl) := g2.cell (by go_simp) (by simp)
  have c_5 : w2.cell? ⟨w.heap.size, 5, none⟩ = some (.float .f32 i.sp) := g2.cell (by go_simp) (by simp)
  have c_6 : w2.cell? ⟨w.heap.size, 6, none⟩ = some (.int .i64 m.g) := g2.cell (by go_simp) (by simp)
  have c_7 : w2.cell? ⟨w.heap.size, 7, none⟩ = some (.int .i64 m.m) := g2.cell (by go_simp) (by simp)
  have c_8 : w2.cell? ⟨w.heap.size, 8, none⟩ = some (.int .i64 m.s) := g2.cell (by go_simp) (by simp)
  have c_9 : w2.cell? ⟨w.heap.size, 9, none⟩ = some (.int .i64 m.a) := g2.cell (by go_simp) (by simp)
  have c_10 : w2.cell? ⟨w.heap.size, 10, none⟩ = some (.int .i64 m.n) := g2.cell (by go_simp) (by simp)
  have c_11 : w2.cell? ⟨w.heap.size, 11, none⟩ = some (.slice none is.length ci) := g2.cell (by go_simp) (by simp)
  have c_12 : w2.cell? ⟨w.heap.size, 12, none⟩ = some (.slice none es.length co) := g2.cell (by go_simp) (by simp)
  have d_0 : w2.cell? ⟨w.heap.size + 1, 0, none⟩ = some (.int .i64 K) := g2.cell (by go_simp) (by simp)
  have d_1 : w2.cell? ⟨w.heap.size + 1, 1, none⟩ = some (.int .i64 s) := g2.cell (by go_simp) (by simp)
  have d_2 : w2.cell? ⟨w.heap.size + 1, 2, none⟩ = some (.int .i64 i.sh) := g2.cell (by go_simp) (by simp)
  have d_3 : w2.cell? ⟨w.heap.size + 1, 3, none⟩ = some (.int .i64 i.nu) := g2.cell (by go_simp) (by simp)
  have d_4 : w2.cell? ⟨w.heap.size + 1, 4, none⟩ = some (.float .f32 i.pl) := g2.cell (by go_simp) (by simp)
  have d_5 : w2.cell? ⟨w.heap.size + 1, 5, none⟩ = some (.float .f32 i.sp) := g2.cell (by go_simp) (by simp)
  have d_6 : w2.cell? ⟨w.heap.size + 1, 6, none⟩ = some (.int .i64 m.g) := g2.cell (by go_simp) (by simp)
  have d_7 : w2.cell? ⟨w.heap.size + 1, 7, none⟩ = some (.int .i64 m.m) := g2.cell (by go_simp) (by simp)
  have d_8 : w2.cell? ⟨w.heap.size + 1, 8, none⟩ = some (.int .i64 m.s) := g2.cell (by go_simp) (by simp)
  have d_9 : w2.cell? ⟨w.heap.size + 1, 9, none⟩ = some (.int .i64 m.a) := g2.cell (by go_simp) (by simp)
  have d_10 : w2.cell? ⟨w.heap.size + 1, 10, none⟩ = some (.int .i64 m.n) := g2.cell (by go_simp) (by simp)
  have d_11 : w2.cell? ⟨w.heap.size + 1, 11, none⟩ = some (.slice none is.length ci) := g2.cell (by go_simp) (by simp)
  have d_12 : w2.cell? ⟨w.heap.size + 1, 12, none⟩ = some (.slice none es.length co) := g2.cell (by go_simp) (by simp)
  have fd : ∀ o, w2.frozen? ⟨w.heap.size + 1, o, none⟩ = false := fun o => by
    rw [World.frozen?_of_block (a := ⟨w.heap.size + 1, o, none⟩) (g2.block (w.heap.size + 1) (by omega) (by simp))]; exact fb o
  have G2 := Hid.mk' (G1.out.trans g2)
  have P1 := Hid.mk' (own_grown O1.out g2)
  have P2 := Hid.mk' o2
  have y1 : (0 : Int) ≤ (is.length : Int) := by omega
  have y2 : (is.length : Int) ≤ ((is.length + 8 : Nat) : Int) := by omega
  have y3 : (0 : Int) ≤ (es.length : Int) := by omega
  have y4 : (es.length : Int) ≤ ((es.length + 8 : Nat) : Int) := by omega
  clear o2 g2 O1 fb
  clear a_0 a_1 a_2 a_3 a_4 a_5 a_6 a_7 a_8 a_9 a_10 a_11 a_12
  clear b_0 b_1 b_2 b_3 b_4 b_5 b_6 b_7 b_8 b_9 b_10 b_11 b_12
  have G3 := Hid.mk' G2.out
  have Q1 := Hid.mk' P1.out
  have Q2 := Hid.mk' P2.out
  go_wp2_with fail
  refine Calls.mono (refEncode_any ⟨K, s, i, m, is, es⟩ (.slice none is.length ci) (.slice none es.length co) _ (HI.out.grown G3.out) (HO.out.grown G3.out) WF.out (show is.length ≤ 1000000000 by omega) (show es.length ≤ 1000000000 by omega)) ?_
  rintro e w3 ⟨rfl, g3⟩
  have f11 : w3.cell? ⟨w.heap.size, 11, none⟩ = some (.slice none is.length ci) := g3.cell (by go_simp) (by simp)
  have f12 : w3.cell? ⟨w.heap.size, 12, none⟩ = some (.slice none es.length co) := g3.cell (by go_simp) (by simp)
  have e_0 : w3.cell? ⟨w.heap.size + 1, 0, none⟩ = some (.int .i64 K) := g3.cell (by go_simp) (by simp)
  have e_1 : w3.cell? ⟨w.heap.size + 1, 1, none⟩ = some (.int .i64 s) := g3.cell (by go_simp) (by simp)
  have e_2 : w3.cell? ⟨w.heap.size + 1, 2, none⟩ = some (.int .i64 i.sh) := g3.cell (by go_simp) (by simp)
  have e_3 : w3.cell? ⟨w.heap.size + 1, 3, none⟩ = some (.int .i64 i.nu) := g3.cell (by go_simp) (by simp)
  have e_4 : w3.cell? ⟨w.heap.size + 1, 4, none⟩ = some (.float .f32 i.pl) := g3.cell (by go_simp) (by simp)
  have e_5 : w3.cell? ⟨w.heap.size + 1, 5, none⟩ = some (.float .f32 i.sp) := g3.cell (by go_simp) (by simp)
  have e_6 : w3.cell? ⟨w.heap.size + 1, 6, none⟩ = some (.int .i64 m.g) := g3.cell (by go_simp) (by simp)
  have e_7 : w3.cell? ⟨w.heap.size + 1, 7, none⟩ = some (.int .i64 m.m) := g3.cell (by go_simp) (by simp)
  have e_8 : w3.cell? ⟨w.heap.size + 1, 8, none⟩ = some (.int .i64 m.s) := g3.cell (by go_simp) (by simp)
  have e_9 : w3.cell? ⟨w.heap.size + 1, 9, none⟩ = some (.int .i64 m.a) := g3.cell (by go_simp) (by simp)
  have e_10 : w3.cell? ⟨w.heap.size + 1, 10, none⟩ = some (.int .i64 m.n) := g3.cell (by go_simp) (by simp)
  have e_11 : w3.cell? ⟨w.heap.size + 1, 11, none⟩ = some (.slice none is.length ci) := g3.cell (by go_simp) (by simp)
  have e_12 : w3.cell? ⟨w.heap.size + 1, 12, none⟩ = some (.slice none es.length co) := g3.cell (by go_simp) (by simp)
  clear c_0 c_1 c_2 c_3 c_4 c_5 c_6 c_7 c_8 c_9 c_10 c_11 c_12
  clear d_0 d_1 d_2 d_3 d_4 d_5 d_6 d_7 d_8 d_9 d_10 d_11 d_12
  have G4 := Hid.mk' (G3.out.trans g3)
  have S1 := Hid.mk' (own_grown Q1.out g3)
  have S2 := Hid.mk' (own_grown Q2.out g3)
  clear g3 fd
  have L1 : Hid (Lies w3 (.slice (some ⟨w.heap.size + 1 + 1, 0, none⟩) (is.length + 8) (is.length + 8)) (is.length + 8) (is.flatMap It.cells ++ (List.replicate 8 it77).flatMap It.cells)) := by
    have := Lies.of_own S1.out
    rw [List.length_append, List.length_replicate, List.flatMap_append] at this
    exact this
  have L2 : Hid (Lies w3 (.slice (some ⟨w1.heap.size, 0, none⟩) (es.length + 8) (es.length + 8)) (es.length + 8) (es.flatMap En.cells ++ (List.replicate 8 en77).flatMap En.cells)) := by
    have := Lies.of_own S2.out
    rw [List.length_append, List.length_replicate, List.flatMap_append] at this
    exact this
  go_wp2_with fail
  refine Calls.mono (encode_any ⟨K, s, i, m, is, es⟩ (.slice none is.length ci) (.slice none es.length co) _ (HI.out.grown G4.out) (HO.out.grown G4.out) WF.out) ?_
  rintro e w4 ⟨rfl, g4⟩
  have h11 := g4.cell f11 (by simp)
  have h12 := g4.cell f12 (by simp)
  have G5 := Hid.mk' (G4.out.trans g4)
  have T1 := Hid.mk' (own_grown S1.out g4)
  have T2 := Hid.mk' (own_grown S2.out g4)
  clear g4 f11 f12 L1 L2
  clear e_0 e_1 e_2 e_3 e_4 e_5 e_6 e_7 e_8 e_9 e_10 e_11 e_12
  go_wp2_with fail
  refine Calls.mono (lentItems_any (.slice none is.length ci) is _ (HI.out.grown G5.out) hni) ?_
  rintro e w5 ⟨v5, rfl, hv5, o5, g5⟩
  subst hv5
  have k12 := g5.cell h12 (by simp)
  have G6 := Hid.mk' (G5.out.trans g5)
  go_wp2_with fail
  refine Calls.mono (stillItems_any _ _ (is ++ List.replicate 8 it77) _ (Lies.of_own (own_grown T1.out g5)) (Lies.of_own o5) (by rw [List.length_append, List.length_replicate]; omega)) ?_
  rintro e w6 ⟨rfl, g6⟩
  have l12 := g6.cell k12 (by simp)
  have G7 := Hid.mk' (G6.out.trans g6)
  have U2 := Hid.mk' (own_grown (own_grown T2.out g5) g6)
  clear o5 g5 g6 h11 h12 k12
  go_wp2_with fail
  refine Calls.mono (lentEntries_any (.slice none es.length co) es _ (HO.out.grown G7.out) hno) ?_
  rintro e w7 ⟨v7, rfl, hv7, o7, g7⟩
  subst hv7
  have G8 := Hid.mk' (G7.out.trans g7)
  go_wp2_with fail
  refine Calls.mono (stillEntries_any _ _ (es ++ List.replicate 8 en77) _ (Lies.of_own (own_grown U2.out g7)) (Lies.of_own o7) (by rw [List.length_append, List.length_replicate]; omega)) ?_
  rintro e w8 ⟨rfl, g8⟩
  have G9 := Hid.mk' (G8.out.trans g8)
  clear o7 g7 g8 l12
  cases hm : mayB ⟨K, s, i, m, is, es⟩
  · have hE : encE ⟨K, s, i, m, is, es⟩ = 2 := by simp [encE, hm]
    rw [hE]
    go_wp2_with fail
    refine Calls.mono (decodes_any l _ (by omega)) ?_
    rintro e w9 ⟨rfl, g9⟩
    go_wp2
    go_ret
    exact ⟨rfl, G9.out.trans g9⟩
  · have hE : encE ⟨K, s, i, m, is, es⟩ = 0 := by simp [encE, hm]
    have hlen : (encS ⟨K, s, i, m, is, es⟩).length ≤ 2000000 := by
      have := enc_len ⟨K, s, i, m, is, es⟩ hm
      simp only [encS, hm, if_true]
      omega
    rw [hE]
    generalize encS ⟨K, s, i, m, is, es⟩ = ES at *
    go_wp2_with fail
    refine Calls.mono (decodes_any ES _ hlen) ?_
    rintro e w9 ⟨rfl, g9⟩
    go_wp2_with fail
    refine Calls.mono (decodes_any l _ (by omega)) ?_
    rintro e wz ⟨rfl, gz⟩
    go_wp2
    go_ret
    exact ⟨rfl, (G9.out.trans g9).trans gz⟩

set_option maxHeartbeats 4000000 in
set_option maxRecDepth 100000 in
theorem codes_01 (K s : Int) (i : It) (m : Mk) (is : List It) (es : List En) (ae : Addr) (ci co : Nat) (l : List UInt8) (w : World) (hi : LiesI w (.slice none is.length ci) is) (ho : LiesE w (.slice (some ae) es.length co) es) (wf : WfR ⟨K, s, i, m, is, es⟩) (hni : is.length ≤ 1048576) (hno : es.length ≤ 1048576) (hl : l.length ≤ 1048576) :
    Calls Try.prog 3 #[rv K s i m (.slice none is.length ci) (.slice (some ae) es.length co), .string (S l)] w fun e w' => e = .returned (.bool true) ∧ w.grownBy w' none := by
  have hsf := run_store_float
  have HI := Hid.mk' hi
  have HO := Hid.mk' ho
  have WF := Hid.mk' wf
  clear hi ho wf
  unfold rv
  go_enter Try.func3, Try.ntmps3
  go_wp2_with (first | (go_at_call 6; refine Calls.mono (sum_any l _ (by unfold maxLen; omega)) ?_; rintro e w' ⟨rfl, rfl⟩) | (go_at_call 7; refine Calls.mono (refSum_any l _ (by unfold maxLen; omega)) ?_; rintro e w' ⟨rfl, rfl⟩))
  refine Calls.mono (lentItems_any (.slice none is.length ci) is _ (HI.out.grown (grownBy_two w _ _)) hni) ?_
  rintro e w1 ⟨v1, rfl, hv1, o1, g1⟩
  have hv2 : v1 = .slice (some ⟨w.heap.size + 1 + 1, 0, none⟩) (is.length + 8) (is.length + 8) := by rw [hv1]; simp
  clear hv1
  subst hv2
  have z1 := g1.size
  simp at z1
  have a_0 : w1.cell? ⟨w.heap.size, 0, none⟩ = some (.int .i64 K) := g1.cell (by go_simp) (by simp)
  have a_1 : w1.cell? ⟨w.heap.size, 1, none⟩ = some (.int .i64 s) := g1.cell (by go_simp) (by simp)
  have a_2 : w1.cell? ⟨w.heap.size, 2, none⟩ = some (.int .i64 i.sh) := g1.cell (by go_simp) (by simp)
  have a_3 : w1.cell? ⟨w.heap.size, 3, none⟩ = some (.int .i64 i.nu) := g1.cell (by go_simp) (by simp)
  have a_4 : w1.cell? ⟨w.heap.size, 4, none⟩ = some (.float .f32 i.pl) := g1.cell (by go_simp) (by simp)
  have a_5 : w1.cell? ⟨w.heap.size, 5, none⟩ = some (.float .f32 i.sp) := g1.cell (by go_simp) (by simp)
  have a_6 : w1.cell? ⟨w.heap.size, 6, none⟩ = some (.int .i64 m.g) := g1.cell (by go_simp) (by simp)
  have a_7 : w1.cell? ⟨w.heap.size, 7, none⟩ = some (.int .i64 m.m) := g1.cell (by go_simp) (by simp)
  have a_8 : w1.cell? ⟨w.heap.size, 8, none⟩ = some (.int .i64 m.s) := g1.cell (by go_simp) (by simp)
  have a_9 : w1.cell? ⟨w.heap.size, 9, none⟩ = some (.int .i64 m.a) := g1.cell (by go_simp) (by simp)
  have a_10 : w1.cell? ⟨w.heap.size, 10, none⟩ = some (.int .i64 m.n) := g1.cell (by go_simp) (by simp)
  have a_11 : w1.cell? ⟨w.heap.size, 11, none⟩ = some (.slice none is.length ci) := g1.cell (by go_simp) (by simp)
  have a_12 : w1.cell? ⟨w.heap.size, 12, none⟩ = some (.slice (some ae) es.length co) := g1.cell (by go_simp) (by simp)
  have b_0 : w1.cell? ⟨w.heap.size + 1, 0, none⟩ = some (.int .i64 K) := g1.cell (by go_simp) (by simp)
  have b_1 : w1.cell? ⟨w.heap.size + 1, 1, none⟩ = some (.int .i64 s) := g1.cell (by go_simp) (by simp)
  have b_2 : w1.cell? ⟨w.heap.size + 1, 2, none⟩ = some (.int .i64 i.sh) := g1.cell (by go_simp) (by simp)
  have b_3 : w1.cell? ⟨w.heap.size + 1, 3, none⟩ = some (.int .i64 i.nu) := g1.cell (by go_simp) (by simp)
  have b_4 : w1.cell? ⟨w.heap.size + 1, 4, none⟩ = some (.float .f32 i.pl) := g1.cell (by go_simp) (by simp)
  have b_5 : w1.cell? ⟨w.heap.size + 1, 5, none⟩ = some (.float .f32 i.sp) := g1.cell (by go_simp) (by simp)
  have b_6 : w1.cell? ⟨w.heap.size + 1, 6, none⟩ = some (.int .i64 m.g) := g1.cell (by go_simp) (by simp)
  have b_7 : w1.cell? ⟨w.heap.size + 1, 7, none⟩ = some (.int .i64 m.m) := g1.cell (by go_simp) (by simp)
  have b_8 : w1.cell? ⟨w.heap.size + 1, 8, none⟩ = some (.int .i64 m.s) := g1.cell (by go_simp) (by simp)
  have b_9 : w1.cell? ⟨w.heap.size + 1, 9, none⟩ = some (.int .i64 m.a) := g1.cell (by go_simp) (by simp)
  have b_10 : w1.cell? ⟨w.heap.size + 1, 10, none⟩ = some (.int .i64 m.n) := g1.cell (by go_simp) (by simp)
  have b_11 : w1.cell? ⟨w.heap.size + 1, 11, none⟩ = some (.slice none is.length ci) := g1.cell (by go_simp) (by simp)
  have b_12 : w1.cell? ⟨w.heap.size + 1, 12, none⟩ = some (.slice (some ae) es.length co) := g1.cell (by go_simp) (by simp)
  have fb : ∀ o, w1.frozen? ⟨w.heap.size + 1, o, none⟩ = false := fun o => by
    rw [World.frozen?_of_block (a := ⟨w.heap.size + 1, o, none⟩) (g1.block (w.heap.size + 1) (by simp) (by simp))]; go_simp
  have G1 := Hid.mk' ((grownBy_two w _ _).trans g1)
  have O1 := Hid.mk' o1
  clear o1 g1
  go_wp2_with fail
  refine Calls.mono (lentEntries_any (.slice (some ae) es.length co) es _ (HO.out.grown G1.out) hno) ?_
  rintro e w2 ⟨v2, rfl, hv2, o2, g2⟩
  subst hv2
  have z2 := g2.size
  have c_0 : w2.cell? ⟨w.heap.size, 0, none⟩ = some (.int .i64 K) := g2.cell (by go_simp) (by simp)
  have c_1 : w2.cell? ⟨w.heap.size, 1, none⟩ = some (.int .i64 s) := g2.cell (by go_simp) (by simp)
  have c_2 : w2.cell? ⟨w.heap.size, 2, none⟩ = some (.int .i64 i.sh) := g2.cell (by go_simp) (by simp)
  have c_3 : w2.cell? ⟨w.heap.size, 3, none⟩ = some (.int .i64 i.nu) := g2.cell (by go_simp) (by simp)
  have c_4 : w2.cell? ⟨w.heap.size, 4, none⟩ = some (.float .f32 i.pl) := g2.cell (by go_simp) (by simp)
  have c_5 : w2.cell? ⟨w.heap.size, 5, none⟩ = some (.float .f32 i.sp) := g2.cell (by go_simp) (by simp)
  have c_6 : w2.cell? ⟨w.heap.size, 6, none⟩ = some (.int .i64 m.g) := g2.cell (by go_simp) (by simp)
  have c_7 : w2.cell? ⟨w.heap.size, 7, none⟩ = some (.int .i64 m.m) := g2.cell (by go_simp) (by simp)
  have c_8 : w2.cell? ⟨w.heap.size, 8, none⟩ = some (.int .i64 m.s) := g2.cell (by go_simp) (by simp)
  have c_9 : w2.cell? ⟨w.heap.size, 9, none⟩ = some (.int .i64 m.a) := g2.cell (by go_simp) (by simp)
  have c_10 : w2.cell? ⟨w.heap.size, 10, none⟩ = some (.int .i64 m.n) := g2.cell (by go_simp) (by simp)
  have c_11 : w2.cell? ⟨w.heap.size, 11, none⟩ = some (.slice none is.length ci) := g2.cell (by go_simp) (by simp)
  have c_12 : w2.cell? ⟨w.heap.size, 12, none⟩ = some (.slice (some ae) es.length co) := g2.cell (by go_simp) (by simp)
  have d_0 : w2.cell? ⟨w.heap.size + 1, 0, none⟩ = some (.int .i64 K) := g2.cell (by go_simp) (by simp)
  have d_1 : w2.cell? ⟨w.heap.size + 1, 1, none⟩ = some (.int .i64 s) := g2.cell (by go_simp) (by simp)
  have d_2 : w2.cell? ⟨w.heap.size + 1, 2, none⟩ = some (.int .i64 i.sh) := g2.cell (by go_simp) (by simp)
  have d_3 : w2.cell? ⟨w.heap.size + 1, 3, none⟩ = some (.int .i64 i.nu) := g2.cell (by go_simp) (by simp)
  have d_4 : w2.cell? ⟨w.heap.size + 1, 4, none⟩ = some (.float .f32 i.pl) := g2.cell (by go_simp) (by simp)
  have d_5 : w2.cell? ⟨w.heap.size + 1, 5, none⟩ = some (.float .f32 i.sp) := g2.cell (by go_simp) (by simp)
  have d_6 : w2.cell? ⟨w.heap.size + 1, 6, none⟩ = some (.int .i64 m.g) := g2.cell (by go_simp) (by simp)
  have d_7 : w2.cell? ⟨w.heap.size + 1, 7, none⟩ = some (.int .i64 m.m) := g2.cell (by go_simp) (by simp)
  have d_8 : w2.cell? ⟨w.heap.size + 1, 8, none⟩ = some (.int .i64 m.s) := g2.cell (by go_simp) (by simp)
  have d_9 : w2.cell? ⟨w.heap.size + 1, 9, none⟩ = some (.int .i64 m.a) := g2.cell (by go_simp) (by simp)
  have d_10 : w2.cell? ⟨w.heap.size + 1, 10, none⟩ = some (.int .i64 m.n) := g2.cell (by go_simp) (by simp)
  have d_11 : w2.cell? ⟨w.heap.size + 1, 11, none⟩ = some (.slice none is.length ci) := g2.cell (by go_simp) (by simp)
  have d_12 : w2.cell? ⟨w.heap.size + 1, 12, none⟩ = some (.slice (some ae) es.length co) := g2.cell (by go_simp) (by simp)
  have fd : ∀ o, w2.frozen? ⟨w.heap.size + 1, o, none⟩ = false := fun o => by
    rw [World.frozen?_of_block (a := ⟨w.heap.size + 1, o, none⟩) (g2.block (w.heap.size + 1) (by omega) (by simp))]; exact fb o
  have G2 := Hid.mk' (G1.out.trans g2)
  have P1 := Hid.mk' (own_grown O1.out g2)
  have P2 := Hid.mk' o2
  have y1 : (0 : Int) ≤ (is.length : Int) := by omega
  have y2 : (is.length : Int) ≤ ((is.length + 8 : Nat) : Int) := by omega
  have y3 : (0 : Int) ≤ (es.length : Int) := by omega
  have y4 : (es.length : Int) ≤ ((es.length + 8 : Nat) : Int) := by omega
  clear o2 g2 O1 fb
  clear a_0 a_1 a_2 a_3 a_4 a_5 a_6 a_7 a_8 a_9 a_10 a_11 a_12
  clear b_0 b_1 b_2 b_3 b_4 b_5 b_6 b_7 b_8 b_9 b_10 b_11 b_12
  have G3 := Hid.mk' (grownBy_store G2.out (show w.heap.size ≤ w.heap.size + 1 by omega) 12 (.slice (some ⟨w1.heap.size, 0, none⟩) es.length (es.length + 8)))
  have Q1 := Hid.mk' (own_store P1.out (w.heap.size + 1) 12 (.slice (some ⟨w1.heap.size, 0, none⟩) es.length (es.length + 8)) (by simp [Value.ownBlock]))
  have Q2 := Hid.mk' (own_store P2.out (w.heap.size + 1) 12 (.slice (some ⟨w1.heap.size, 0, none⟩) es.length (es.length + 8)) (by simp [Value.ownBlock]; omega))
  go_wp2_with fail
  refine Calls.mono (refEncode_any ⟨K, s, i, m, is, es⟩ (.slice none is.length ci) (.slice (some ae) es.length co) _ (HI.out.grown G3.out) (HO.out.grown G3.out) WF.out (show is.length ≤ 1000000000 by omega) (show es.length ≤ 1000000000 by omega)) ?_
  rintro e w3 ⟨rfl, g3⟩
  have f11 : w3.cell? ⟨w.heap.size, 11, none⟩ = some (.slice none is.length ci) := g3.cell (by go_simp) (by simp)
  have f12 : w3.cell? ⟨w.heap.size, 12, none⟩ = some (.slice (some ae) es.length co) := g3.cell (by go_simp) (by simp)
  have e_0 : w3.cell? ⟨w.heap.size + 1, 0, none⟩ = some (.int .i64 K) := g3.cell (by go_simp) (by simp)
  have e_1 : w3.cell? ⟨w.heap.size + 1, 1, none⟩ = some (.int .i64 s) := g3.cell (by go_simp) (by simp)
  have e_2 : w3.cell? ⟨w.heap.size + 1, 2, none⟩ = some (.int .i64 i.sh) := g3.cell (by go_simp) (by simp)
  have e_3 : w3.cell? ⟨w.heap.size + 1, 3, none⟩ = some (.int .i64 i.nu) := g3.cell (by go_simp) (by simp)
  have e_4 : w3.cell? ⟨w.heap.size + 1, 4, none⟩ = some (.float .f32 i.pl) := g3.cell (by go_simp) (by simp)
  have e_5 : w3.cell? ⟨w.heap.size + 1, 5, none⟩ = some (.float .f32 i.sp) := g3.cell (by go_simp) (by simp)
  have e_6 : w3.cell? ⟨w.heap.size + 1, 6, none⟩ = some (.int .i64 m.g) := g3.cell (by go_simp) (by simp)
  have e_7 : w3.cell? ⟨w.heap.size + 1, 7, none⟩ = some (.int .i64 m.m) := g3.cell (by go_simp) (by simp)
  have e_8 : w3.cell? ⟨w.heap.size + 1, 8, none⟩ = some (.int .i64 m.s) := g3.cell (by go_simp) (by simp)
  have e_9 : w3.cell? ⟨w.heap.size + 1, 9, none⟩ = some (.int .i64 m.a) := g3.cell (by go_simp) (by simp)
  have e_10 : w3.cell? ⟨w.heap.size + 1, 10, none⟩ = some (.int .i64 m.n) := g3.cell (by go_simp) (by simp)
  have e_11 : w3.cell? ⟨w.heap.size + 1, 11, none⟩ = some (.slice none is.length ci) := g3.cell (by go_simp) (by simp)
  have e_12 : w3.cell? ⟨w.heap.size + 1, 12, none⟩ = some (.slice (some ⟨w1.heap.size, 0, none⟩) es.length (es.length + 8)) := g3.cell (by go_simp) (by simp)
  clear c_0 c_1 c_2 c_3 c_4 c_5 c_6 c_7 c_8 c_9 c_10 c_11 c_12
  clear d_0 d_1 d_2 d_3 d_4 d_5 d_6 d_7 d_8 d_9 d_10 d_11 d_12
  have G4 := Hid.mk' (G3.out.trans g3)
  have S1 := Hid.mk' (own_grown Q1.out g3)
  have S2 := Hid.mk' (own_grown Q2.out g3)
  clear g3 fd
  have L1 : Hid (Lies w3 (.slice (some ⟨w.heap.size + 1 + 1, 0, none⟩) (is.length + 8) (is.length + 8)) (is.length + 8) (is.flatMap It.cells ++ (List.replicate 8 it77).flatMap It.cells)) := by
    have := Lies.of_own S1.out
    rw [List.length_append, List.length_replicate, List.flatMap_append] at this
    exact this
  have L2 : Hid (Lies w3 (.slice (some ⟨w1.heap.size, 0, none⟩) (es.length + 8) (es.length + 8)) (es.length + 8) (es.flatMap En.cells ++ (List.replicate 8 en77).flatMap En.cells)) := by
    have := Lies.of_own S2.out
    rw [List.length_append, List.length_replicate, List.flatMap_append] at this
    exact this
  go_wp2_with fail
  refine Calls.mono (encode_any ⟨K, s, i, m, is, es⟩ (.slice none is.length ci) (.slice (some ⟨w1.heap.size, 0, none⟩) es.length (es.length + 8)) _ (HI.out.grown G4.out) (L2.out.head (by omega)) WF.out) ?_
  rintro e w4 ⟨rfl, g4⟩
  have h11 := g4.cell f11 (by simp)
  have h12 := g4.cell f12 (by simp)
  have G5 := Hid.mk' (G4.out.trans g4)
  have T1 := Hid.mk' (own_grown S1.out g4)
  have T2 := Hid.mk' (own_grown S2.out g4)
  clear g4 f11 f12 L1 L2
  clear e_0 e_1 e_2 e_3 e_4 e_5 e_6 e_7 e_8 e_9 e_10 e_11 e_12
  go_wp2_with fail
  refine Calls.mono (lentItems_any (.slice none is.length ci) is _ (HI.out.grown G5.out) hni) ?_
  rintro e w5 ⟨v5, rfl, hv5, o5, g5⟩
  subst hv5
  have k12 := g5.cell h12 (by simp)
  have G6 := Hid.mk' (G5.out.trans g5)
  go_wp2_with fail
  refine Calls.mono (stillItems_any _ _ (is ++ List.replicate 8 it77) _ (Lies.of_own (own_grown T1.out g5)) (Lies.of_own o5) (by rw [List.length_append, List.length_replicate]; omega)) ?_
  rintro e w6 ⟨rfl, g6⟩
  have l12 := g6.cell k12 (by simp)
  have G7 := Hid.mk' (G6.out.trans g6)
  have U2 := Hid.mk' (own_grown (own_grown T2.out g5) g6)
  clear o5 g5 g6 h11 h12 k12
  go_wp2_with fail
  refine Calls.mono (lentEntries_any (.slice (some ae) es.length co) es _ (HO.out.grown G7.out) hno) ?_
  rintro e w7 ⟨v7, rfl, hv7, o7, g7⟩
  subst hv7
  have G8 := Hid.mk' (G7.out.trans g7)
  go_wp2_with fail
  refine Calls.mono (stillEntries_any _ _ (es ++ List.replicate 8 en77) _ (Lies.of_own (own_grown U2.out g7)) (Lies.of_own o7) (by rw [List.length_append, List.length_replicate]; omega)) ?_
  rintro e w8 ⟨rfl, g8⟩
  have G9 := Hid.mk' (G8.out.trans g8)
  clear o7 g7 g8 l12
  cases hm : mayB ⟨K, s, i, m, is, es⟩
  · have hE : encE ⟨K, s, i, m, is, es⟩ = 2 := by simp [encE, hm]
    rw [hE]
    go_wp2_with fail
    refine Calls.mono (decodes_any l _ (by omega)) ?_
    rintro e w9 ⟨rfl, g9⟩
    go_wp2
    go_ret
    exact ⟨rfl, G9.out.trans g9⟩
  · have hE : encE ⟨K, s, i, m, is, es⟩ = 0 := by simp [encE, hm]
    have hlen : (encS ⟨K, s, i, m, is, es⟩).length ≤ 2000000 := by
      have := enc_len ⟨K, s, i, m, is, es⟩ hm
      simp only [encS, hm, if_true]
      omega
    rw [hE]
    generalize encS ⟨K, s, i, m, is, es⟩ = ES at *
    go_wp2_with fail
    refine Calls.mono (decodes_any ES _ hlen) ?_
    rintro e w9 ⟨rfl, g9⟩
    go_wp2_with fail
    refine Calls.mono (decodes_any l _ (by omega)) ?_
    rintro e wz ⟨rfl, gz⟩
    go_wp2
    go_ret
    exact ⟨rfl, (G9.out.trans g9).trans gz⟩

set_option maxHeartbeats 4000000 in
set_option maxRecDepth 100000 in
theorem codes_10 (K s : Int) (i : It) (m : Mk) (is : List It) (es : List En) (ad : Addr) (ci co : Nat) (l : List UInt8) (w : World) (hi : LiesI w (.slice (some ad) is.length ci) is) (ho : LiesE w (.slice none es.length co) es) (wf : WfR ⟨K, s, i, m, is, es⟩) (hni : is.length ≤ 1048576) (hno : es.length ≤ 1048576) (hl : l.length ≤ 1048576) :
    Calls Try.prog 3 #[rv K s i m (.slice (some ad) is.length ci) (.slice none es.length co), .string (S l)] w fun e w' => e = .returned (.bool true) ∧ w.grownBy w' none := by
  have hsf := run_store_float
  have HI := Hid.mk' hi
  have HO := Hid.mk' ho
  have WF := Hid.mk' wf
  clear hi ho wf
  unfold rv
  go_enter Try.func3, Try.ntmps3
  go_wp2_with (first | (go_at_call 6; refine Calls.mono (sum_any l _ (by unfold maxLen; omega)) ?_; rintro e w' ⟨rfl, rfl⟩) | (go_at_call 7; refine Calls.mono (refSum_any l _ (by unfold maxLen; omega)) ?_; rintro e w' ⟨rfl, rfl⟩))
  refine Calls.mono (lentItems_any (.slice (some ad) is.length ci) is _ (HI.out.grown (grownBy_two w _ _)) hni) ?_
  rintro e w1 ⟨v1, rfl, hv1, o1, g1⟩
  have hv2 : v1 = .slice (some ⟨w.heap.size + 1 + 1, 0, none⟩) (is.length + 8) (is.length + 8) := by rw [hv1]; simp
  clear hv1
  subst hv2
  have z1 := g1.size
  simp at z1
  have a_0 : w1.cell? ⟨w.heap.size, 0, none⟩ = some (.int .i64 K) := g1.cell (by go_simp) (by simp)
  have a_1 : w1.cell? ⟨w.heap.size, 1, none⟩ = some (.int .i64 s) := g1.cell (by go_simp) (by simp)
  have a_2 : w1.cell? ⟨w.heap.size, 2, none⟩ = some (.int .i64 i.sh) := g1.cell (by go_simp) (by simp)
  have a_3 : w1.cell? ⟨w.heap.size, 3, none⟩ = some (.int .i64 i.nu) := g1.cell (by go_simp) (by simp)
  have a_4 : w1.cell? ⟨w.heap.size, 4, none⟩ = some (.float .f32 i.pl) := g1.cell (by go_simp) (by simp)
  have a_5 : w1.cell? ⟨w.heap.size, 5, none⟩ = some (.float .f32 i.sp) := g1.cell (by go_simp) (by simp)
  have a_6 : w1.cell? ⟨w.heap.size, 6, none⟩ = some (.int .i64 m.g) := g1.cell (by go_simp) (by simp)
  have a_7 : w1.cell? ⟨w.heap.size, 7, none⟩ = some (.int .i64 m.m) := g1.cell (by go_simp) (by simp)
  have a_8 : w1.cell? ⟨w.heap.size, 8, none⟩ = some (.int .i64 m.s) := g1.cell (by go_simp) (by simp)
  have a_9 : w1.cell? ⟨w.heap.size, 9, none⟩ = some (.int .i64 m.a) := g1.cell (by go_simp) (by simp)
  have a_10 : w1.cell? ⟨w.heap.size, 10, none⟩ = some (.int .i64 m.n) := g1.cell (by go_simp) (by simp)
  have a_11 : w1.cell? ⟨w.heap.size, 11, none⟩ = some (.slice (some ad) is.length ci) := g1.cell (by go_simp) (by simp)
  have a_12 : w1.cell? ⟨w.heap.size, 12, none⟩ = some (.slice none es.length co) := g1.cell (by go_simp) (by simp)
  have b_0 : w1.cell? ⟨w.heap.size + 1, 0, none⟩ = some (.int .i64 K) := g1.cell (by go_simp) (by simp)
  have b_1 : w1.cell? ⟨w.heap.size + 1, 1, none⟩ = some (.int .i64 s) := g1.cell (by go_simp) (by simp)
  have b_2 : w1.cell? ⟨w.heap.size + 1, 2, none⟩ = some (.int .i64 i.sh) := g1.cell (by go_simp) (by simp)
  have b_3 : w1.cell? ⟨w.heap.size + 1, 3, none⟩ = some (.int .i64 i.nu) := g1.cell (by go_simp) (by simp)
  have b_4 : w1.cell? ⟨w.heap.size + 1, 4, none⟩ = some (.float .f32 i.pl) := g1.cell (by go_simp) (by simp)
  have b_5 : w1.cell? ⟨w.heap.size + 1, 5, none⟩ = some (.float .f32 i.sp) := g1.cell (by go_simp) (by simp)
  have b_6 : w1.cell? ⟨w.heap.size + 1, 6, none⟩ = some (.int .i64 m.g) := g1.cell (by go_simp) (by simp)
  have b_7 : w1.cell? ⟨w.heap.size + 1, 7, none⟩ = some (.int .i64 m.m) := g1.cell (by go_simp) (by simp)
  have b_8 : w1.cell? ⟨w.heap.size + 1, 8, none⟩ = some (.int .i64 m.s) := g1.cell (by go_simp) (by simp)
  have b_9 : w1.cell? ⟨w.heap.size + 1, 9, none⟩ = some (.int .i64 m.a) := g1.cell (by go_simp) (by simp)
  have b_10 : w1.cell? ⟨w.heap.size + 1, 10, none⟩ = some (.int .i64 m.n) := g1.cell (by go_simp) (by simp)
  have b_11 : w1.cell? ⟨w.heap.size + 1, 11, none⟩ = some (.slice (some ad) is.length ci) := g1.cell (by go_simp) (by simp)
  have b_12 : w1.cell? ⟨w.heap.size + 1, 12, none⟩ = some (.slice none es.length co) := g1.cell (by go_simp) (by simp)
  have fb : ∀ o, w1.frozen? ⟨w.heap.size + 1, o, none⟩ = false := fun o => by
    rw [World.frozen?_of_block (a := ⟨w.heap.size + 1, o, none⟩) (g1.block (w.heap.size + 1) (by simp) (by simp))]; go_simp
  have G1 := Hid.mk' ((grownBy_two w _ _).trans g1)
  have O1 := Hid.mk' o1
  clear o1 g1
  go_wp2_with fail
  refine Calls.mono (lentEntries_any (.slice none es.length co) es _ (HO.out.grown G1.out) hno) ?_
  rintro e w2 ⟨v2, rfl, hv2, o2, g2⟩
  subst hv2
  have z2 := g2.size
  have c_0 : w2.cell? ⟨w.heap.size, 0, none⟩ = some (.int .i64 K) := g2.cell (by go_simp) (by simp)
  have c_1 : w2.cell? ⟨w.heap.size, 1, none⟩ = some (.int .i64 s) := g2.cell (by go_simp) (by simp)
  have c_2 : w2.cell? ⟨w.heap.size, 2, none⟩ = some (.int .i64 i.sh) := g2.cell (by go_simp) (by simp)
  have c_3 : w2.cell? ⟨w.heap.size, 3, none⟩ = some (.int .i64 i.nu) := g2.cell (by go_simp) (by simp)
  have c_4 : w2.cell? ⟨w.heap.size, 4, none⟩ = some (.float .f32 i.pl) := g2.cell (by go_simp) (by simp)
  have c_5 : w2.cell? ⟨w.heap.size, 5, none⟩ = some (.float .f32 i.sp) := g2.cell (by go_simp) (by simp)
  have c_6 : w2.cell? ⟨w.heap.size, 6, none⟩ = some (.int .i64 m.g) := g2.cell (by go_simp) (by simp)
  have c_7 : w2.cell? ⟨w.heap.size, 7, none⟩ = some (.int .i64 m.m) := g2.cell (by go_simp) (by simp)
  have c_8 : w2.cell? ⟨w.heap.size, 8, none⟩ = some (.int .i64 m.s) := g2.cell (by go_simp) (by simp)
  have c_9 : w2.cell? ⟨w.heap.size, 9, none⟩ = some (.int .i64 m.a) := g2.cell (by go_simp) (by simp)
  have c_10 : w2.cell? ⟨w.heap.size, 10, none⟩ = some (.int .i64 m.n) := g2.cell (by go_simp) (by simp)
  have c_11 : w2.cell? ⟨w.heap.size, 11, none⟩ = some (.slice (some ad) is.length ci) := g2.cell (by go_simp) (by simp)
  have c_12 : w2.cell? ⟨w.heap.size, 12, none⟩ = some (.slice none es.length co) := g2.cell (by go_simp) (by simp)
  have d_0 : w2.cell? ⟨w.heap.size + 1, 0, none⟩ = some (.int .i64 K) := g2.cell (by go_simp) (by simp)
  have d_1 : w2.cell? ⟨w.heap.size + 1, 1, none⟩ = some (.int .i64 s) := g2.cell (by go_simp) (by simp)
  have d_2 : w2.cell? ⟨w.heap.size + 1, 2, none⟩ = some (.int .i64 i.sh) := g2.cell (by go_simp) (by simp)
  have d_3 : w2.cell? ⟨w.heap.size + 1, 3, none⟩ = some (.int .i64 i.nu) := g2.cell (by go_simp) (by simp)
  have d_4 : w2.cell? ⟨w.heap.size + 1, 4, none⟩ = some (.float .f32 i.pl) := g2.cell (by go_simp) (by simp)
  have d_5 : w2.cell? ⟨w.heap.size + 1, 5, none⟩ = some (.float .f32 i.sp) := g2.cell (by go_simp) (by simp)
  have d_6 : w2.cell? ⟨w.heap.size + 1, 6, none⟩ = some (.int .i64 m.g) := g2.cell (by go_simp) (by simp)
  have d_7 : w2.cell? ⟨w.heap.size + 1, 7, none⟩ = some (.int .i64 m.m) := g2.cell (by go_simp) (by simp)
  have d_8 : w2.cell? ⟨w.heap.size + 1, 8, none⟩ = some (.int .i64 m.s) := g2.cell (by go_simp) (by simp)
  have d_9 : w2.cell? ⟨w.heap.size + 1, 9, none⟩ = some (.int .i64 m.a) := g2.cell (by go_simp) (by simp)
  have d_10 : w2.cell? ⟨w.heap.size + 1, 10, none⟩ = some (.int .i64 m.n) := g2.cell (by go_simp) (by simp)
  have d_11 : w2.cell? ⟨w.heap.size + 1, 11, none⟩ = some (.slice (some ad) is.length ci) := g2.cell (by go_simp) (by simp)
  have d_12 : w2.cell? ⟨w.heap.size + 1, 12, none⟩ = some (.slice none es.length co) := g2.cell (by go_simp) (by simp)
  have fd : ∀ o, w2.frozen? ⟨w.heap.size + 1, o, none⟩ = false := fun o => by
    rw [World.frozen?_of_block (a := ⟨w.heap.size + 1, o, none⟩) (g2.block (w.heap.size + 1) (by omega) (by simp))]; exact fb o
  have G2 := Hid.mk' (G1.out.trans g2)
  have P1 := Hid.mk' (own_grown O1.out g2)
  have P2 := Hid.mk' o2
  have y1 : (0 : Int) ≤ (is.length : Int) := by omega
  have y2 : (is.length : Int) ≤ ((is.length + 8 : Nat) : Int) := by omega
  have y3 : (0 : Int) ≤ (es.length : Int) := by omega
  have y4 : (es.length : Int) ≤ ((es.length + 8 : Nat) : Int) := by omega
  clear o2 g2 O1 fb
  clear a_0 a_1 a_2 a_3 a_4 a_5 a_6 a_7 a_8 a_9 a_10 a_11 a_12
  clear b_0 b_1 b_2 b_3 b_4 b_5 b_6 b_7 b_8 b_9 b_10 b_11 b_12
  have G3 := Hid.mk' (grownBy_store G2.out (show w.heap.size ≤ w.heap.size + 1 by omega) 11 (.slice (some ⟨w.heap.size + 1 + 1, 0, none⟩) is.length (is.length + 8)))
  have Q1 := Hid.mk' (own_store P1.out (w.heap.size + 1) 11 (.slice (some ⟨w.heap.size + 1 + 1, 0, none⟩) is.length (is.length + 8)) (by simp [Value.ownBlock]))
  have Q2 := Hid.mk' (own_store P2.out (w.heap.size + 1) 11 (.slice (some ⟨w.heap.size + 1 + 1, 0, none⟩) is.length (is.length + 8)) (by simp [Value.ownBlock]; omega))
  go_wp2_with fail
  refine Calls.mono (refEncode_any ⟨K, s, i, m, is, es⟩ (.slice (some ad) is.length ci) (.slice none es.length co) _ (HI.out.grown G3.out) (HO.out.grown G3.out) WF.out (show is.length ≤ 1000000000 by omega) (show es.length ≤ 1000000000 by omega)) ?_
  rintro e w3 ⟨rfl, g3⟩
  have f11 : w3.cell? ⟨w.heap.size, 11, none⟩ = some (.slice (some ad) is.length ci) := g3.cell (by go_simp) (by simp)
  have f12 : w3.cell? ⟨w.heap.size, 12, none⟩ = some (.slice none es.length co) := g3.cell (by go_simp) (by simp)
  have e_0 : w3.cell? ⟨w.heap.size + 1, 0, none⟩ = some (.int .i64 K) := g3.cell (by go_simp) (by simp)
  have e_1 : w3.cell? ⟨w.heap.size + 1, 1, none⟩ = some (.int .i64 s) := g3.cell (by go_simp) (by simp)
  have e_2 : w3.cell? ⟨w.heap.size + 1, 2, none⟩ = some (.int .i64 i.sh) := g3.cell (by go_simp) (by simp)
  have e_3 : w3.cell? ⟨w.heap.size + 1, 3, none⟩ = some (.int .i64 i.nu) := g3.cell (by go_simp) (by simp)
  have e_4 : w3.cell? ⟨w.heap.size + 1, 4, none⟩ = some (.float .f32 i.pl) := g3.cell (by go_simp) (by simp)
  have e_5 : w3.cell? ⟨w.heap.size + 1, 5, none⟩ = some (.float .f32 i.sp) := g3.cell (by go_simp) (by simp)
  have e_6 : w3.cell? ⟨w.heap.size + 1, 6, none⟩ = some (.int .i64 m.g) := g3.cell (by go_simp) (by simp)
  have e_7 : w3.cell? ⟨w.heap.size + 1, 7, none⟩ = some (.int .i64 m.m) := g3.cell (by go_simp) (by simp)
  have e_8 : w3.cell? ⟨w.heap.size + 1, 8, none⟩ = some (.int .i64 m.s) := g3.cell (by go_simp) (by simp)
  have e_9 : w3.cell? ⟨w.heap.size + 1, 9, none⟩ = some (.int .i64 m.a) := g3.cell (by go_simp) (by simp)
  have e_10 : w3.cell? ⟨w.heap.size + 1, 10, none⟩ = some (.int .i64 m.n) := g3.cell (by go_simp) (by simp)
  have e_11 : w3.cell? ⟨w.heap.size + 1, 11, none⟩ = some (.slice (some ⟨w.heap.size + 1 + 1, 0, none⟩) is.length (is.length + 8)) := g3.cell (by go_simp) (by simp)
  have e_12 : w3.cell? ⟨w.heap.size + 1, 12, none⟩ = some (.slice none es.length co) := g3.cell (by go_simp) (by simp)
  clear c_0 c_1 c_2 c_3 c_4 c_5 c_6 c_7 c_8 c_9 c_10 c_11 c_12
  clear d_0 d_1 d_2 d_3 d_4 d_5 d_6 d_7 d_8 d_9 d_10 d_11 d_12
  have G4 := Hid.mk' (G3.out.trans g3)
  have S1 := Hid.mk' (own_grown Q1.out g3)
  have S2 := Hid.mk' (own_grown Q2.out g3)
  clear g3 fd
  have L1 : Hid (Lies w3 (.slice (some ⟨w.heap.size + 1 + 1, 0, none⟩) (is.length + 8) (is.length + 8)) (is.length + 8) (is.flatMap It.cells ++ (List.replicate 8 it77).flatMap It.cells)) := by
    have := Lies.of_own S1.out
    rw [List.length_append, List.length_replicate, List.flatMap_append] at this
    exact this
  have L2 : Hid (Lies w3 (.slice (some ⟨w1.heap.size, 0, none⟩) (es.length + 8) (es.length + 8)) (es.length + 8) (es.flatMap En.cells ++ (List.replicate 8 en77).flatMap En.cells)) := by
    have := Lies.of_own S2.out
    rw [List.length_append, List.length_replicate, List.flatMap_append] at this
    exact this
  go_wp2_with fail
  refine Calls.mono (encode_any ⟨K, s, i, m, is, es⟩ (.slice (some ⟨w.heap.size + 1 + 1, 0, none⟩) is.length (is.length + 8)) (.slice none es.length co) _ (L1.out.head (by omega)) (HO.out.grown G4.out) WF.out) ?_
  rintro e w4 ⟨rfl, g4⟩
  have h11 := g4.cell f11 (by simp)
  have h12 := g4.cell f12 (by simp)
  have G5 := Hid.mk' (G4.out.trans g4)
  have T1 := Hid.mk' (own_grown S1.out g4)
  have T2 := Hid.mk' (own_grown S2.out g4)
  clear g4 f11 f12 L1 L2
  clear e_0 e_1 e_2 e_3 e_4 e_5 e_6 e_7 e_8 e_9 e_10 e_11 e_12
  go_wp2_with fail
  refine Calls.mono (lentItems_any (.slice (some ad) is.length ci) is _ (HI.out.grown G5.out) hni) ?_
  rintro e w5 ⟨v5, rfl, hv5, o5, g5⟩
  subst hv5
  have k12 := g5.cell h12 (by simp)
  have G6 := Hid.mk' (G5.out.trans g5)
  go_wp2_with fail
  refine Calls.mono (stillItems_any _ _ (is ++ List.replicate 8 it77) _ (Lies.of_own (own_grown T1.out g5)) (Lies.of_own o5) (by rw [List.length_append, List.length_replicate]; omega)) ?_
  rintro e w6 ⟨rfl, g6⟩
  have l12 := g6.cell k12 (by simp)
  have G7 := Hid.mk' (G6.out.trans g6)
  have U2 := Hid.mk' (own_grown (own_grown T2.out g5) g6)
  clear o5 g5 g6 h11 h12 k12
  go_wp2_with fail
  refine Calls.mono (lentEntries_any (.slice none es.length co) es _ (HO.out.grown G7.out) hno) ?_
  rintro e w7 ⟨v7, rfl, hv7, o7, g7⟩
  subst hv7
  have G8 := Hid.mk' (G7.out.trans g7)
  go_wp2_with fail
  refine Calls.mono (stillEntries_any _ _ (es ++ List.replicate 8 en77) _ (Lies.of_own (own_grown U2.out g7)) (Lies.of_own o7) (by rw [List.length_append, List.length_replicate]; omega)) ?_
  rintro e w8 ⟨rfl, g8⟩
  have G9 := Hid.mk' (G8.out.trans g8)
  clear o7 g7 g8 l12
  cases hm : mayB ⟨K, s, i, m, is, es⟩
  · have hE : encE ⟨K, s, i, m, is, es⟩ = 2 := by simp [encE, hm]
    rw [hE]
    go_wp2_with fail
    refine Calls.mono (decodes_any l _ (by omega)) ?_
    rintro e w9 ⟨rfl, g9⟩
    go_wp2
    go_ret
    exact ⟨rfl, G9.out.trans g9⟩
  · have hE : encE ⟨K, s, i, m, is, es⟩ = 0 := by simp [encE, hm]
    have hlen : (encS ⟨K, s, i, m, is, es⟩).length ≤ 2000000 := by
      have := enc_len ⟨K, s, i, m, is, es⟩ hm
      simp only [encS, hm, if_true]
      omega
    rw [hE]
    generalize encS ⟨K, s, i, m, is, es⟩ = ES at *
    go_wp2_with fail
    refine Calls.mono (decodes_any ES _ hlen) ?_
    rintro e w9 ⟨rfl, g9⟩
    go_wp2_with fail
    refine Calls.mono (decodes_any l _ (by omega)) ?_
    rintro e wz ⟨rfl, gz⟩
    go_wp2
    go_ret
    exact ⟨rfl, (G9.out.trans g9).trans gz⟩

set_option maxHeartbeats 4000000 in
set_option maxRecDepth 100000 in
theorem codes_11 (K s : Int) (i : It) (m : Mk) (is : List It) (es : List En) (ad : Addr) (ae : Addr) (ci co : Nat) (l : List UInt8) (w : World) (hi : LiesI w (.slice (some ad) is.length ci) is) (ho : LiesE w (.slice (some ae) es.length co) es) (wf : WfR ⟨K, s, i, m, is, es⟩) (hni : is.length ≤ 1048576) (hno : es.length ≤ 1048576) (hl : l.length ≤ 1048576) :
    Calls Try.prog 3 #[rv K s i m (.slice (some ad) is.length ci) (.slice (some ae) es.length co), .string (S l)] w fun e w' => e = .returned (.bool true) ∧ w.grownBy w' none := by
  have hsf := run_store_float
  have HI := Hid.mk' hi
  have HO := Hid.mk' ho
  have WF := Hid.mk' wf
  clear hi ho wf
  unfold rv
  go_enter Try.func3, Try.ntmps3
  go_wp2_with (first | (go_at_call 6; refine Calls.mono (sum_any l _ (by unfold maxLen; omega)) ?_; rintro e w' ⟨rfl, rfl⟩) | (go_at_call 7; refine Calls.mono (refSum_any l _ (by unfold maxLen; omega)) ?_; rintro e w' ⟨rfl, rfl⟩))
  refine Calls.mono (lentItems_any (.slice (some ad) is.length ci) is _ (HI.out.grown (grownBy_two w _ _)) hni) ?_
  rintro e w1 ⟨v1, rfl, hv1, o1, g1⟩
  have hv2 : v1 = .slice (some ⟨w.heap.size + 1 + 1, 0, none⟩) (is.length + 8) (is.length + 8) := by rw [hv1]; simp
  clear hv1
  subst hv2
  have z1 := g1.size
  simp at z1
  have a_0 : w1.cell? ⟨w.heap.size, 0, none⟩ = some (.int .i64 K) := g1.cell (by go_simp) (by simp)
  have a_1 : w1.cell? ⟨w.heap.size, 1, none⟩ = some (.int .i64 s) := g1.cell (by go_simp) (by simp)
  have a_2 : w1.cell? ⟨w.heap.size, 2, none⟩ = some (.int .i64 i.sh) := g1.cell (by go_simp) (by simp)
  have a_3 : w1.cell? ⟨w.heap.size, 3, none⟩ = some (.int .i64 i.nu) := g1.cell (by go_simp) (by simp)
  have a_4 : w1.cell? ⟨w.heap.size, 4, none⟩ = some (.float .f32 i.pl) := g1.cell (by go_simp) (by simp)
  have a_5 : w1.cell? ⟨w.heap.size, 5, none⟩ = some (.float .f32 i.sp) := g1.cell (by go_simp) (by simp)
  have a_6 : w1.cell? ⟨w.heap.size, 6, none⟩ = some (.int .i64 m.g) := g1.cell (by go_simp) (by simp)
  have a_7 : w1.cell? ⟨w.heap.size, 7, none⟩ = some (.int .i64 m.m) := g1.cell (by go_simp) (by simp)
  have a_8 : w1.cell? ⟨w.heap.size, 8, none⟩ = some (.int .i64 m.s) := g1.cell (by go_simp) (by simp)
  have a_9 : w1.cell? ⟨w.heap.size, 9, none⟩ = some (.int .i64 m.a) := g1.cell (by go_simp) (by simp)
  have a_10 : w1.cell? ⟨w.heap.size, 10, none⟩ = some (.int .i64 m.n) := g1.cell (by go_simp) (by simp)
  have a_11 : w1.cell? ⟨w.heap.size, 11, none⟩ = some (.slice (some ad) is.length ci) := g1.cell (by go_simp) (by simp)
  have a_12 : w1.cell? ⟨w.heap.size, 12, none⟩ = some (.slice (some ae) es.length co) := g1.cell (by go_simp) (by simp)
  have b_0 : w1.cell? ⟨w.heap.size + 1, 0, none⟩ = some (.int .i64 K) := g1.cell (by go_simp) (by simp)
  have b_1 : w1.cell? ⟨w.heap.size + 1, 1, none⟩ = some (.int .i64 s) := g1.cell (by go_simp) (by simp)
  have b_2 : w1.cell? ⟨w.heap.size + 1, 2, none⟩ = some (.int .i64 i.sh) := g1.cell (by go_simp) (by simp)
  have b_3 : w1.cell? ⟨w.heap.size + 1, 3, none⟩ = some (.int .i64 i.nu) := g1.cell (by go_simp) (by simp)
  have b_4 : w1.cell? ⟨w.heap.size + 1, 4, none⟩ = some (.float .f32 i.pl) := g1.cell (by go_simp) (by simp)
  have b_5 : w1.cell? ⟨w.heap.size + 1, 5, none⟩ = some (.float .f32 i.sp) := g1.cell (by go_simp) (by simp)
  have b_6 : w1.cell? ⟨w.heap.size + 1, 6, none⟩ = some (.int .i64 m.g) := g1.cell (by go_simp) (by simp)
  have b_7 : w1.cell? ⟨w.heap.size + 1, 7, none⟩ = some (.int .i64 m.m) := g1.cell (by go_simp) (by simp)
  have b_8 : w1.cell? ⟨w.heap.size + 1, 8, none⟩ = some (.int .i64 m.s) := g1.cell (by go_simp) (by simp)
  have b_9 : w1.cell? ⟨w.heap.size + 1, 9, none⟩ = some (.int .i64 m.a) := g1.cell (by go_simp) (by simp)
  have b_10 : w1.cell? ⟨w.heap.size + 1, 10, none⟩ = some (.int .i64 m.n) := g1.cell (by go_simp) (by simp)
  have b_11 : w1.cell? ⟨w.heap.size + 1, 11, none⟩ = some (.slice (some ad) is.length ci) := g1.cell (by go_simp) (by simp)
  have b_12 : w1.cell? ⟨w.heap.size + 1, 12, none⟩ = some (.slice (some ae) es.length co) := g1.cell (by go_simp) (by simp)
  have fb : ∀ o, w1.frozen? ⟨w.heap.size + 1, o, none⟩ = false := fun o => by
    rw [World.frozen?_of_block (a := ⟨w.heap.size + 1, o, none⟩) (g1.block (w.heap.size + 1) (by simp) (by simp))]; go_simp
  have G1 := Hid.mk' ((grownBy_two w _ _).trans g1)
  have O1 := Hid.mk' o1
  clear o1 g1
  go_wp2_with fail
  refine Calls.mono (lentEntries_any (.slice (some ae) es.length co) es _ (HO.out.grown G1.out) hno) ?_
  rintro e w2 ⟨v2, rfl, hv2, o2, g2⟩
  subst hv2
  have z2 := g2.size
  have c_0 : w2.cell? ⟨w.heap.size, 0, none⟩ = some (.int .i64 K) := g2.cell (by go_simp) (by simp)
  have c_1 : w2.cell? ⟨w.heap.size, 1, none⟩ = some (.int .i64 s) := g2.cell (by go_simp) (by simp)
  have c_2 : w2.cell? ⟨w.heap.size, 2, none⟩ = some (.int .i64 i.sh) := g2.cell (by go_simp) (by simp)
  have c_3 : w2.cell? ⟨w.heap.size, 3, none⟩ = some (.int .i64 i.nu) := g2.cell (by go_simp) (by simp)
  have c_4 : w2.cell? ⟨w.heap.size, 4, none⟩ = some (.float .f32 i.pl) := g2.cell (by go_simp) (by simp)
  have c_5 : w2.cell? ⟨w.heap.size, 5, none⟩ = some (.float .f32 i.sp) := g2.cell (by go_simp) (by simp)
  have c_6 : w2.cell? ⟨w.heap.size, 6, none⟩ = some (.int .i64 m.g) := g2.cell (by go_simp) (by simp)
  have c_7 : w2.cell? ⟨w.heap.size, 7, none⟩ = some (.int .i64 m.m) := g2.cell (by go_simp) (by simp)
  have c_8 : w2.cell? ⟨w.heap.size, 8, none⟩ = some (.int .i64 m.s) := g2.cell (by go_simp) (by simp)
  have c_9 : w2.cell? ⟨w.heap.size, 9, none⟩ = some (.int .i64 m.a) := g2.cell (by go_simp) (by simp)
  have c_10 : w2.cell? ⟨w.heap.size, 10, none⟩ = some (.int .i64 m.n) := g2.cell (by go_simp) (by simp)
  have c_11 : w2.cell? ⟨w.heap.size, 11, none⟩ = some (.slice (some ad) is.length ci) := g2.cell (by go_simp) (by simp)
  have c_12 : w2.cell? ⟨w.heap.size, 12, none⟩ = some (.slice (some ae) es.length co) := g2.cell (by go_simp) (by simp)
  have d_0 : w2.cell? ⟨w.heap.size + 1, 0, none⟩ = some (.int .i64 K) := g2.cell (by go_simp) (by simp)
  have d_1 : w2.cell? ⟨w.heap.size + 1, 1, none⟩ = some (.int .i64 s) := g2.cell (by go_simp) (by simp)
  have d_2 : w2.cell? ⟨w.heap.size + 1, 2, none⟩ = some (.int .i64 i.sh) := g2.cell (by go_simp) (by simp)
  have d_3 : w2.cell? ⟨w.heap.size + 1, 3, none⟩ = some (.int .i64 i.nu) := g2.cell (by go_simp) (by simp)
  have d_4 : w2.cell? ⟨w.heap.size + 1, 4, none⟩ = some (.float .f32 i.pl) := g2.cell (by go_simp) (by simp)
  have d_5 : w2.cell? ⟨w.heap.size + 1, 5, none⟩ = some (.float .f32 i.sp) := g2.cell (by go_simp) (by simp)
  have d_6 : w2.cell? ⟨w.heap.size + 1, 6, none⟩ = some (.int .i64 m.g) := g2.cell (by go_simp) (by simp)
  have d_7 : w2.cell? ⟨w.heap.size + 1, 7, none⟩ = some (.int .i64 m.m) := g2.cell (by go_simp) (by simp)
  have d_8 : w2.cell? ⟨w.heap.size + 1, 8, none⟩ = some (.int .i64 m.s) := g2.cell (by go_simp) (by simp)
  have d_9 : w2.cell? ⟨w.heap.size + 1, 9, none⟩ = some (.int .i64 m.a) := g2.cell (by go_simp) (by simp)
  have d_10 : w2.cell? ⟨w.heap.size + 1, 10, none⟩ = some (.int .i64 m.n) := g2.cell (by go_simp) (by simp)
  have d_11 : w2.cell? ⟨w.heap.size + 1, 11, none⟩ = some (.slice (some ad) is.length ci) := g2.cell (by go_simp) (by simp)
  have d_12 : w2.cell? ⟨w.heap.size + 1, 12, none⟩ = some (.slice (some ae) es.length co) := g2.cell (by go_simp) (by simp)
  have fd : ∀ o, w2.frozen? ⟨w.heap.size + 1, o, none⟩ = false := fun o => by
    rw [World.frozen?_of_block (a := ⟨w.heap.size + 1, o, none⟩) (g2.block (w.heap.size + 1) (by omega) (by simp))]; exact fb o
  have G2 := Hid.mk' (G1.out.trans g2)
  have P1 := Hid.mk' (own_grown O1.out g2)
  have P2 := Hid.mk' o2
  have y1 : (0 : Int) ≤ (is.length : Int) := by omega
  have y2 : (is.length : Int) ≤ ((is.length + 8 : Nat) : Int) := by omega
  have y3 : (0 : Int) ≤ (es.length : Int) := by omega
  have y4 : (es.length : Int) ≤ ((es.length + 8 : Nat) : Int) := by omega
  clear o2 g2 O1 fb
  clear a_0 a_1 a_2 a_3 a_4 a_5 a_6 a_7 a_8 a_9 a_10 a_11 a_12
  clear b_0 b_1 b_2 b_3 b_4 b_5 b_6 b_7 b_8 b_9 b_10 b_11 b_12
  have G3 := Hid.mk' (grownBy_store (grownBy_store G2.out (show w.heap.size ≤ w.heap.size + 1 by omega) 11 (.slice (some ⟨w.heap.size + 1 + 1, 0, none⟩) is.length (is.length + 8))) (show w.heap.size ≤ w.heap.size + 1 by omega) 12 (.slice (some ⟨w1.heap.size, 0, none⟩) es.length (es.length + 8)))
  have Q1 := Hid.mk' (own_store (own_store P1.out (w.heap.size + 1) 11 (.slice (some ⟨w.heap.size + 1 + 1, 0, none⟩) is.length (is.length + 8)) (by simp [Value.ownBlock])) (w.heap.size + 1) 12 (.slice (some ⟨w1.heap.size, 0, none⟩) es.length (es.length + 8)) (by simp [Value.ownBlock]))
  have Q2 := Hid.mk' (own_store (own_store P2.out (w.heap.size + 1) 11 (.slice (some ⟨w.heap.size + 1 + 1, 0, none⟩) is.length (is.length + 8)) (by simp [Value.ownBlock]; omega)) (w.heap.size + 1) 12 (.slice (some ⟨w1.heap.size, 0, none⟩) es.length (es.length + 8)) (by simp [Value.ownBlock]; omega))
  go_wp2_with fail
  refine Calls.mono (refEncode_any ⟨K, s, i, m, is, es⟩ (.slice (some ad) is.length ci) (.slice (some ae) es.length co) _ (HI.out.grown G3.out) (HO.out.grown G3.out) WF.out (show is.length ≤ 1000000000 by omega) (show es.length ≤ 1000000000 by omega)) ?_
  rintro e w3 ⟨rfl, g3⟩
  have f11 : w3.cell? ⟨w.heap.size, 11, none⟩ = some (.slice (some ad) is.length ci) := g3.cell (by go_simp) (by simp)
  have f12 : w3.cell? ⟨w.heap.size, 12, none⟩ = some (.slice (some ae) es.length co) := g3.cell (by go_simp) (by simp)
  have e_0 : w3.cell? ⟨w.heap.size + 1, 0, none⟩ = some (.int .i64 K) := g3.cell (by go_simp) (by simp)
  have e_1 : w3.cell? ⟨w.heap.size + 1, 1, none⟩ = some (.int .i64 s) := g3.cell (by go_simp) (by simp)
  have e_2 : w3.cell? ⟨w.heap.size + 1, 2, none⟩ = some (.int .i64 i.sh) := g3.cell (by go_simp) (by simp)
  have e_3 : w3.cell? ⟨w.heap.size + 1, 3, none⟩ = some (.int .i64 i.nu) := g3.cell (by go_simp) (by simp)
  have e_4 : w3.cell? ⟨w.heap.size + 1, 4, none⟩ = some (.float .f32 i.pl) := g3.cell (by go_simp) (by simp)
  have e_5 : w3.cell? ⟨w.heap.size + 1, 5, none⟩ = some (.float .f32 i.sp) := g3.cell (by go_simp) (by simp)
  have e_6 : w3.cell? ⟨w.heap.size + 1, 6, none⟩ = some (.int .i64 m.g) := g3.cell (by go_simp) (by simp)
  have e_7 : w3.cell? ⟨w.heap.size + 1, 7, none⟩ = some (.int .i64 m.m) := g3.cell (by go_simp) (by simp)
  have e_8 : w3.cell? ⟨w.heap.size + 1, 8, none⟩ = some (.int .i64 m.s) := g3.cell (by go_simp) (by simp)
  have e_9 : w3.cell? ⟨w.heap.size + 1, 9, none⟩ = some (.int .i64 m.a) := g3.cell (by go_simp) (by simp)
  have e_10 : w3.cell? ⟨w.heap.size + 1, 10, none⟩ = some (.int .i64 m.n) := g3.cell (by go_simp) (by simp)
  have e_11 : w3.cell? ⟨w.heap.size + 1, 11, none⟩ = some (.slice (some ⟨w.heap.size + 1 + 1, 0, none⟩) is.length (is.length + 8)) := g3.cell (by go_simp) (by simp)
  have e_12 : w3.cell? ⟨w.heap.size + 1, 12, none⟩ = some (.slice (some ⟨w1.heap.size, 0, none⟩) es.length (es.length + 8)) := g3.cell (by go_simp) (by simp)
  clear c_0 c_1 c_2 c_3 c_4 c_5 c_6 c_7 c_8 c_9 c_10 c_11 c_12
  clear d_0 d_1 d_2 d_3 d_4 d_5 d_6 d_7 d_8 d_9 d_10 d_11 d_12
  have G4 := Hid.mk' (G3.out.trans g3)
  have S1 := Hid.mk' (own_grown Q1.out g3)
  have S2 := Hid.mk' (own_grown Q2.out g3)
  clear g3 fd
  have L1 : Hid (Lies w3 (.slice (some ⟨w.heap.size + 1 + 1, 0, none⟩) (is.length + 8) (is.length + 8)) (is.length + 8) (is.flatMap It.cells ++ (List.replicate 8 it77).flatMap It.cells)) := by
    have := Lies.of_own S1.out
    rw [List.length_append, List.length_replicate, List.flatMap_append] at this
    exact this
  have L2 : Hid (Lies w3 (.slice (some ⟨w1.heap.size, 0, none⟩) (es.length + 8) (es.length + 8)) (es.length + 8) (es.flatMap En.cells ++ (List.replicate 8 en77).flatMap En.cells)) := by
    have := Lies.of_own S2.out
    rw [List.length_append, List.length_replicate, List.flatMap_append] at this
    exact this
  go_wp2_with fail
  refine Calls.mono (encode_any ⟨K, s, i, m, is, es⟩ (.slice (some ⟨w.heap.size + 1 + 1, 0, none⟩) is.length (is.length + 8)) (.slice (some ⟨w1.heap.size, 0, none⟩) es.length (es.length + 8)) _ (L1.out.head (by omega)) (L2.out.head (by omega)) WF.out) ?_
  rintro e w4 ⟨rfl, g4⟩
  have h11 := g4.cell f11 (by simp)
  have h12 := g4.cell f12 (by simp)
  have G5 := Hid.mk' (G4.out.trans g4)
  have T1 := Hid.mk' (own_grown S1.out g4)
  have T2 := Hid.mk' (own_grown S2.out g4)
  clear g4 f11 f12 L1 L2
  clear e_0 e_1 e_2 e_3 e_4 e_5 e_6 e_7 e_8 e_9 e_10 e_11 e_12
  go_wp2_with fail
  refine Calls.mono (lentItems_any (.slice (some ad) is.length ci) is _ (HI.out.grown G5.out) hni) ?_
  rintro e w5 ⟨v5, rfl, hv5, o5, g5⟩
  subst hv5
  have k12 := g5.cell h12 (by simp)
  have G6 := Hid.mk' (G5.out.trans g5)
  go_wp2_with fail
  refine Calls.mono (stillItems_any _ _ (is ++ List.replicate 8 it77) _ (Lies.of_own (own_grown T1.out g5)) (Lies.of_own o5) (by rw [List.length_append, List.length_replicate]; omega)) ?_
  rintro e w6 ⟨rfl, g6⟩
  have l12 := g6.cell k12 (by simp)
  have G7 := Hid.mk' (G6.out.trans g6)
  have U2 := Hid.mk' (own_grown (own_grown T2.out g5) g6)
  clear o5 g5 g6 h11 h12 k12
  go_wp2_with fail
  refine Calls.mono (lentEntries_any (.slice (some ae) es.length co) es _ (HO.out.grown G7.out) hno) ?_
  rintro e w7 ⟨v7, rfl, hv7, o7, g7⟩
  subst hv7
  have G8 := Hid.mk' (G7.out.trans g7)
  go_wp2_with fail
  refine Calls.mono (stillEntries_any _ _ (es ++ List.replicate 8 en77) _ (Lies.of_own (own_grown U2.out g7)) (Lies.of_own o7) (by rw [List.length_append, List.length_replicate]; omega)) ?_
  rintro e w8 ⟨rfl, g8⟩
  have G9 := Hid.mk' (G8.out.trans g8)
  clear o7 g7 g8 l12
  cases hm : mayB ⟨K, s, i, m, is, es⟩
  · have hE : encE ⟨K, s, i, m, is, es⟩ = 2 := by simp [encE, hm]
    rw [hE]
    go_wp2_with fail
    refine Calls.mono (decodes_any l _ (by omega)) ?_
    rintro e w9 ⟨rfl, g9⟩
    go_wp2
    go_ret
    exact ⟨rfl, G9.out.trans g9⟩
  · have hE : encE ⟨K, s, i, m, is, es⟩ = 0 := by simp [encE, hm]
    have hlen : (encS ⟨K, s, i, m, is, es⟩).length ≤ 2000000 := by
      have := enc_len ⟨K, s, i, m, is, es⟩ hm
      simp only [encS, hm, if_true]
      omega
    rw [hE]
    generalize encS ⟨K, s, i, m, is, es⟩ = ES at *
    go_wp2_with fail
    refine Calls.mono (decodes_any ES _ hlen) ?_
    rintro e w9 ⟨rfl, g9⟩
    go_wp2_with fail
    refine Calls.mono (decodes_any l _ (by omega)) ?_
    rintro e wz ⟨rfl, gz⟩
    go_wp2
    go_ret
    exact ⟨rfl, (G9.out.trans g9).trans gz⟩

/-- CODES ANSWERS TRUE. -/
theorem codes_any (r : Rc) (vi vo : Value) (l : List UInt8) (w : World) (hi : LiesI w vi r.items) (ho : LiesE w vo r.outs) (wf : WfR r) (hni : r.items.length ≤ 1048576) (hno : r.outs.length ≤ 1048576) (hl : l.length ≤ 1048576) :
    Calls Try.prog 3 #[rv r.kind r.seq r.it r.mks vi vo, .string (S l)] w fun e w' => e = .returned (.bool true) ∧ w.grownBy w' none := by
  obtain ⟨K, s, i, m, is, es⟩ := r
  obtain ⟨ai, ci, rfl, hx⟩ := hi
  obtain ⟨ao, co, rfl, hy⟩ := ho
  cases ai with
  | none =>
    cases ao with
    | none => exact codes_00 K s i m is es ci co l w ⟨_, _, rfl, hx⟩ ⟨_, _, rfl, hy⟩ wf hni hno hl
    | some ae => exact codes_01 K s i m is es ae ci co l w ⟨_, _, rfl, hx⟩ ⟨_, _, rfl, hy⟩ wf hni hno hl
  | some ad =>
    cases ao with
    | none => exact codes_10 K s i m is es ad ci co l w ⟨_, _, rfl, hx⟩ ⟨_, _, rfl, hy⟩ wf hni hno hl
    | some ae => exact codes_11 K s i m is es ad ae ci co l w ⟨_, _, rfl, hx⟩ ⟨_, _, rfl, hy⟩ wf hni hno hl
end Go.Proofs.Ytammnaafdhhjaaa
