/- Ytammnaafdhhjaaa: Encode. -/
import Derived.Test.YtammnaafdhhjaaaE1
namespace Go.Proofs.Ytammnaafdhhjaaa
open Go.RowKit

def enc (r : Rc) : List UInt8 := body r ++ n2 (sumL (body r))

theorem foldl_push (l : List UInt8) (a : List UInt8) : (l.map (fun c => (c.toNat : Int))).foldl (fun r n => r.push (UInt8.ofNat n.toNat)) (S a) = S (a ++ l) := by
  induction l generalizing a with
  | nil => simp
  | cons c t ih =>
    have e : (S a).push (UInt8.ofNat ((c.toNat : Int)).toNat) = S (a ++ [c]) := by
      apply ByteArray.ext; simp [S, ByteArray.push]
    rw [List.map_cons, List.foldl_cons, e, ih]; simp
theorem run_str (B : Nat) (w : World) (v : Value) (l : List UInt8) (h : Own B w v l) : (convert 58 9 v).run Try.prog w = .ok (.string (S l)) w := by
  obtain ⟨a, n, c, rfl⟩ := slice_of h
  rw [run_convert_bytes_string w 58 9 5 a n c Try.underlying58 Try.underlying5 Try.underlying9]
  rcases h.2 with ⟨hv, hn⟩ | ⟨g, cap, cur, hv, _⟩
  · injection hv with h1 h2 h3
    subst h1 h2 h3
    have hl : l = [] := List.eq_nil_of_length_eq_zero hn
    subst hl
    rfl
  · injection hv with h1 h2 h3
    subst h1 h2 h3
    have hm : l.map by8 = (l.map (fun c => (c.toNat : Int))).map (Value.int .u8) := by rw [List.map_map]; rfl
    have hload := run_loadCells_list (P := Try.prog) w ⟨g, 0, none⟩ (l.map by8) (h.cells (g := g) rfl)
    rw [List.length_map] at hload
    rw [run_bytesToString w ⟨g, 0, none⟩ l.length c (l.map (fun c => (c.toNat : Int))) (by rw [hload, hm])]
    have := foldl_push l []
    simp only [List.nil_append] at this
    exact congrArg (fun x => Result.ok (Value.string x) w) this

theorem body_len (r : Rc) (hm : mayB r = true) : (body r).length ≤ 1000 := by
  have h6 : r.kind = 6 → r.items.length ≤ 16 ∧ r.outs.length ≤ 8 := by
    intro h
    simp [mayB, h, baseB, itemsB, outsB] at hm
    exact ⟨hm.2.1.2.1, hm.2.2.1⟩
  unfold body
  split
  · simp [eIt_len]
  · split
    · simp [n2_len]
    · split
      · simp [n2_len, eIt_len]
      · split
        · simp [n2_len]
        · split
          · rename_i h
            have := h6 h
            simp [eMk_len, eIts_len, eEns_len]; omega
          · simp

theorem ret2_of {a b : Value} {c d : Value} (h1 : a = c) (h2 : b = d) : Ending.returned (.tuple #[a, b]) = .returned (.tuple #[c, d]) := by rw [h1, h2]

set_option maxHeartbeats 2000000 in
theorem encode_no (r : Rc) (vi vo : Value) (w : World) (hi : LiesI w vi r.items) (ho : LiesE w vo r.outs) (hm : mayB r = false) :
    Calls Try.prog 11 #[rv r.kind r.seq r.it r.mks vi vo] w fun e w' => e = .returned (.tuple #[.string (S []), .int .i64 2]) ∧ w.grownBy w' none := by
  obtain ⟨K, s, i, m, is, es⟩ := r
  have HI := Hid.mk' hi
  have HO := Hid.mk' ho
  have HM := Hid.mk' hm
  clear hi ho hm
  obtain ⟨ai, ci, rfl, _⟩ := HI.out
  obtain ⟨ao, co, rfl, _⟩ := HO.out
  show Calls Try.prog 11 #[rv K s i m (.slice ai is.length ci) (.slice ao es.length co)] w _
  unfold rv
  go_enter Try.func11, Try.ntmps11
  go_wp2_with fail
  refine Calls.mono (may_any ⟨K, s, i, m, is, es⟩ (.slice ai is.length ci) (.slice ao es.length co) _ (HI.out.grown (World.grownBy_alloc _ _ _)) (HO.out.grown (World.grownBy_alloc _ _ _))) ?_
  rintro e w1 ⟨rfl, g1⟩
  rw [HM.out]
  go_wp2_with fail
  go_ret2
  exact ⟨ret2_of rfl rfl, (World.grownBy_alloc _ _ _).trans g1⟩

set_option maxHeartbeats 2000000 in
theorem encode_yes (r : Rc) (vi vo : Value) (w : World) (hi : LiesI w vi r.items) (ho : LiesE w vo r.outs) (hm : mayB r = true) (wf : WfR r) :
    Calls Try.prog 11 #[rv r.kind r.seq r.it r.mks vi vo] w fun e w' => e = .returned (.tuple #[.string (S (enc r)), .int .i64 0]) ∧ w.grownBy w' none := by
  have hbl := body_len r hm
  obtain ⟨K, s, i, m, is, es⟩ := r
  have HI := Hid.mk' hi
  have HO := Hid.mk' ho
  have HM := Hid.mk' hm
  have HW := Hid.mk' wf
  clear hi ho hm wf
  obtain ⟨ai, ci, rfl, _⟩ := HI.out
  obtain ⟨ao, co, rfl, _⟩ := HO.out
  show Calls Try.prog 11 #[rv K s i m (.slice ai is.length ci) (.slice ao es.length co)] w _
  unfold rv
  go_enter Try.func11, Try.ntmps11
  go_wp2_with fail
  refine Calls.mono (may_any ⟨K, s, i, m, is, es⟩ (.slice ai is.length ci) (.slice ao es.length co) _ (HI.out.grown (World.grownBy_alloc _ _ _)) (HO.out.grown (World.grownBy_alloc _ _ _))) ?_
  rintro e w1 ⟨rfl, g1⟩
  have G1 := Hid.mk' ((World.grownBy_alloc w _ none).trans g1)
  have z1 := G1.out.size
  rw [HM.out]
  have c0 : w1.cell? ⟨w.heap.size, 0, none⟩ = some (.int .i64 K) := g1.cell (by go_simp) (by simp)
  have c1 : w1.cell? ⟨w.heap.size, 1, none⟩ = some (.int .i64 s) := g1.cell (by go_simp) (by simp)
  have c2 : w1.cell? ⟨w.heap.size, 2, none⟩ = some (.int .i64 i.sh) := g1.cell (by go_simp) (by simp)
  have c3 : w1.cell? ⟨w.heap.size, 3, none⟩ = some (.int .i64 i.nu) := g1.cell (by go_simp) (by simp)
  have c4 : w1.cell? ⟨w.heap.size, 4, none⟩ = some (.float .f32 i.pl) := g1.cell (by go_simp) (by simp)
  have c5 : w1.cell? ⟨w.heap.size, 5, none⟩ = some (.float .f32 i.sp) := g1.cell (by go_simp) (by simp)
  have c6 : w1.cell? ⟨w.heap.size, 6, none⟩ = some (.int .i64 m.g) := g1.cell (by go_simp) (by simp)
  have c7 : w1.cell? ⟨w.heap.size, 7, none⟩ = some (.int .i64 m.m) := g1.cell (by go_simp) (by simp)
  have c8 : w1.cell? ⟨w.heap.size, 8, none⟩ = some (.int .i64 m.s) := g1.cell (by go_simp) (by simp)
  have c9 : w1.cell? ⟨w.heap.size, 9, none⟩ = some (.int .i64 m.a) := g1.cell (by go_simp) (by simp)
  have c10 : w1.cell? ⟨w.heap.size, 10, none⟩ = some (.int .i64 m.n) := g1.cell (by go_simp) (by simp)
  have c11 : w1.cell? ⟨w.heap.size, 11, none⟩ = some (.slice ai is.length ci) := g1.cell (by go_simp) (by simp)
  have c12 : w1.cell? ⟨w.heap.size, 12, none⟩ = some (.slice ao es.length co) := g1.cell (by go_simp) (by simp)
  go_wp2_with fail
  refine Calls.mono (putRec_any ⟨K, s, i, m, is, es⟩ (.slice ai is.length ci) (.slice ao es.length co) _ (HI.out.grown G1.out) (HO.out.grown G1.out) HM.out HW.out) ?_
  rintro e w2 ⟨v2, rfl, o2, g2⟩
  obtain ⟨l, hl⟩ : ∃ l, body ⟨K, s, i, m, is, es⟩ = l := ⟨_, rfl⟩
  rw [hl] at o2 hbl
  have HL := Hid.mk' hl
  clear hl
  have O2 := Hid.mk' o2
  have z2 := g2.size
  obtain ⟨b0, b1⟩ := sumL_bd l
  have hr2 := run_str _ _ _ _ o2
  clear o2
  go_wp2_with fail
  refine Calls.mono (sum_any l _ (by unfold maxLen; omega)) ?_
  rintro e w3 ⟨rfl, rfl⟩
  go_wp2_with fail
  refine Calls.mono (putNumber_any w1.heap.size v2 l (sumL l) _ O2.out (by omega) (by omega) b0 (by omega)) ?_
  rintro e w4 ⟨v4, rfl, p4⟩
  have hr4 := run_str _ _ _ _ p4.own
  go_wp2_with fail
  go_ret2
  exact ⟨ret2_of (by unfold enc; rw [HL.out]; rfl) rfl, G1.out.trans (p4.low O2.out g2)⟩
end Go.Proofs.Ytammnaafdhhjaaa
