/- Ytammnaafdhhjaaa: Back. -/
import Derived.Test.YtammnaafdhhjaaaB1
import Derived.Lib.ConvBytes
namespace Go.Proofs.Ytammnaafdhhjaaa
open Go.RowKit

set_option maxHeartbeats 4000000 in
set_option maxRecDepth 100000 in
theorem back_no (K s : Int) (i : It) (m : Mk) (is : List It) (es : List En) (vi vo : Value) (l : List UInt8) (at' by' : Int) (w : World) (hi : LiesI w vi is) (ho : LiesE w vo es) 
    (hm : mayB ⟨K, s, i, m, is, es⟩ = false) :
    Calls Try.prog 5 #[rv K s i m vi vo, .string (S l), .int .i64 at', .int .i64 by'] w fun e w' => e = .returned (.bool true) ∧ w.grownBy w' none := by
  have HI := Hid.mk' hi
  have HO := Hid.mk' ho
  have HM0 := Hid.mk' hm
  clear hi ho hm
  unfold rv
  obtain ⟨ai, ci, rfl, _⟩ := HI.out
  obtain ⟨ao, co, rfl, _⟩ := HO.out
  have hsf := run_store_float
  go_enter Try.func5, Try.ntmps5
  go_wp2_with fail
  refine Calls.mono (works_any _) ?_
  rintro e w1 ⟨rfl, g1⟩
  have G1 := Hid.mk' ((World.grownBy_alloc w _ none).trans g1)
  have a0 : w1.cell? ⟨w.heap.size, 0, none⟩ = some (.int .i64 K) := g1.cell (by go_simp) (by simp)
  have a1 : w1.cell? ⟨w.heap.size, 1, none⟩ = some (.int .i64 s) := g1.cell (by go_simp) (by simp)
  have a2 : w1.cell? ⟨w.heap.size, 2, none⟩ = some (.int .i64 i.sh) := g1.cell (by go_simp) (by simp)
  have a3 : w1.cell? ⟨w.heap.size, 3, none⟩ = some (.int .i64 i.nu) := g1.cell (by go_simp) (by simp)
  have a4 : w1.cell? ⟨w.heap.size, 4, none⟩ = some (.float .f32 i.pl) := g1.cell (by go_simp) (by simp)
  have a5 : w1.cell? ⟨w.heap.size, 5, none⟩ = some (.float .f32 i.sp) := g1.cell (by go_simp) (by simp)
  have a6 : w1.cell? ⟨w.heap.size, 6, none⟩ = some (.int .i64 m.g) := g1.cell (by go_simp) (by simp)
  have a7 : w1.cell? ⟨w.heap.size, 7, none⟩ = some (.int .i64 m.m) := g1.cell (by go_simp) (by simp)
  have a8 : w1.cell? ⟨w.heap.size, 8, none⟩ = some (.int .i64 m.s) := g1.cell (by go_simp) (by simp)
  have a9 : w1.cell? ⟨w.heap.size, 9, none⟩ = some (.int .i64 m.a) := g1.cell (by go_simp) (by simp)
  have a10 : w1.cell? ⟨w.heap.size, 10, none⟩ = some (.int .i64 m.n) := g1.cell (by go_simp) (by simp)
  have a11 : w1.cell? ⟨w.heap.size, 11, none⟩ = some (.slice ai is.length ci) := g1.cell (by go_simp) (by simp)
  have a12 : w1.cell? ⟨w.heap.size, 12, none⟩ = some (.slice ao es.length co) := g1.cell (by go_simp) (by simp)
  go_wp2_with fail
  refine Calls.mono (encode_no ⟨K, s, i, m, is, es⟩ (.slice ai is.length ci) (.slice ao es.length co) _ (HI.out.grown G1.out) (HO.out.grown G1.out) HM0.out) ?_
  rintro e w2 ⟨rfl, g2⟩
  clear a0 a1 a2 a3 a4 a5 a6 a7 a8 a9 a10 a11 a12
  go_wp2_with fail
  refine Calls.mono (decode_any l _) ?_
  rintro e wd ⟨gd, (⟨hd0, rfl⟩ | ⟨hd1, ui, uo, rfl, oi, oo, _⟩)⟩
  · unfold zeroV rv
    go_wp2_with fail
    go_ret
    exact ⟨rfl, grownBy_alloc' ((G1.out.trans g2).trans gd) _⟩
  · obtain ⟨hdm, hdf⟩ := decB_form hd1
    have HD := Hid.mk' (show l = enc (dec l) from hdf)
    have HDW := Hid.mk' (dec_wf l)
    obtain ⟨bi, mi, di, rfl⟩ := slice_of oi
    obtain ⟨bo, mo, do', rfl⟩ := slice_of oo
    obtain ⟨p, hp⟩ : ∃ p, dec l = p := ⟨_, rfl⟩
    rw [hp] at oi oo HD HDW hdm ⊢
    have LI : Hid (LiesI wd (.slice bi mi di) p.items) := Lies.of_own oi
    have LO : Hid (LiesE wd (.slice bo mo do') p.outs) := Lies.of_own oo
    have HM := Hid.mk' hdm
    clear hp oi oo hdf hdm hd1
    unfold rv
    go_wp2_with fail
    refine Calls.mono (encode_yes p (.slice bi mi di) (.slice bo mo do') _ (LI.out.grown (World.grownBy_alloc _ _ _)) (LO.out.grown (World.grownBy_alloc _ _ _)) HM.out HDW.out) ?_
    rintro e we ⟨rfl, ge⟩
    rw [← HD.out]
    go_wp2_with fail
    go_ret
    exact ⟨rfl, (grownBy_alloc' ((G1.out.trans g2).trans gd) _).trans ge⟩


theorem decode_no (l : List UInt8) (w : World) (h : decB l = false) :
    Calls Try.prog 22 #[.string (S l)] w fun e w' => e = .returned (.tuple #[zeroV, .int .i64 7]) ∧ w.grownBy w' none := by
  refine (decode_any l w).mono ?_
  rintro e w' ⟨g, (⟨_, he⟩ | ⟨hd, _⟩)⟩
  · exact ⟨he, g⟩
  · rw [h] at hd; cases hd
/-- A text turned into bytes: a row of the call's own. -/
theorem to_bytes (W : World) (T : List UInt8) (n : Nat) (hn : (S T).size = n) : ∃ w7 c, (convert 9 58 (.string (S T))).run Try.prog W = .ok (.slice (some ⟨W.heap.size, 0, none⟩) n c) w7 ∧ W.grownBy w7 none ∧ w7.heap.size = W.heap.size + 1 ∧
    (∀ j, j < n → w7.cell? ⟨W.heap.size, j, none⟩ = some (by8 (T.getD j 0))) ∧ (∀ j, j < n → w7.frozen? ⟨W.heap.size, j, none⟩ = false) := by
  subst hn
  refine ⟨Lib.bytesWorld W 5 (S T), _, Lib.run_convert_string_bytes W 9 58 5 (S T) Try.underlying9 Try.underlying58 Try.underlying5, ⟨rfl, rfl, rfl, ?_, fun k hk _ => Lib.bytesWorld_at_old W _ _ k hk⟩, Lib.bytesWorld_size _ _ _, fun j hj => ?_, fun j hj => ?_⟩
  · rw [Lib.bytesWorld_size]; omega
  · rw [Lib.bytesWorld_cell _ _ _ _ hj, S_data]; rfl
  · have hs : (S T).size ≤ (Lib.bytesCells W 5 (S T)).size := by
      simp [Lib.bytesCells]
    simp [World.frozen?, Lib.bytesWorld_at_new]
    omega
theorem run_str_cells (W : World) (g n c : Nat) (l : List UInt8) (hl : l.length = n) (h : ∀ j, j < n → W.cell? ⟨g, j, none⟩ = some (by8 (l.getD j 0))) :
    (convert 58 9 (.slice (some ⟨g, 0, none⟩) n c)).run Try.prog W = .ok (.string (S l)) W := by
  subst hl
  rw [run_convert_bytes_string W 58 9 5 _ _ c Try.underlying58 Try.underlying5 Try.underlying9]
  have hm : l.map by8 = (l.map (fun c => (c.toNat : Int))).map (Value.int .u8) := by rw [List.map_map]; rfl
  have hload := run_loadCells_list (P := Try.prog) W ⟨g, 0, none⟩ (l.map by8) (fun j v hv => by
    have hj : j < l.length := by have := (List.getElem?_eq_some_iff.1 hv).1; simpa using this
    have e : (⟨g, 0, none⟩ : Addr).add j = ⟨g, j, none⟩ := by unfold Addr.add; split <;> simp_all
    rw [e, h j hj]
    rw [List.getElem?_map, List.getElem?_eq_getElem hj] at hv
    rw [List.getD_eq_getElem?_getD, List.getElem?_eq_getElem hj]
    simpa using hv)
  rw [List.length_map] at hload
  rw [run_bytesToString W ⟨g, 0, none⟩ l.length c (l.map (fun c => (c.toNat : Int))) (by rw [hload, hm])]
  have := foldl_push l []
  simp only [List.nil_append] at this
  exact congrArg (fun x => Result.ok (Value.string x) W) this
theorem set_cell (W : World) (g k : Nat) (T : List UInt8) (d : UInt8) {u : Value} (hk : W.cell? ⟨g, k, none⟩ = some u) (h : ∀ j, j < T.length → W.cell? ⟨g, j, none⟩ = some (by8 (T.getD j 0))) (j : Nat) (hj : j < T.length) :
    (W.setCell ⟨g, k, none⟩ (by8 d)).drew.cell? ⟨g, j, none⟩ = some (by8 ((T.set k d).getD j 0)) := by
  show (W.setCell ⟨g, k, none⟩ (by8 d)).cell? ⟨g, j, none⟩ = _
  by_cases e : k = j
  · subst e
    rw [World.cell?_setCell_same _ _ _ hk, List.getD_eq_getElem?_getD, List.getElem?_set_self hj]; rfl
  · have hne : (⟨g, k, none⟩ : Addr) ≠ ⟨g, j, none⟩ := by intro h'; injection h' with _ h' _; exact e h'
    rw [World.cell?_setCell_other (h := hne), h j hj, List.getD_eq_getElem?_getD, List.getD_eq_getElem?_getD, List.getElem?_set_ne e]
theorem dec_set (T : List UInt8) (k : Nat) (c d : UInt8) (hk : k < T.length) (hc : T.getD k 0 = c) (hne : c ≠ d) (h : decB T = true) : decB (T.set k d) = false := by
  have e : T = T.take k ++ c :: T.drop (k + 1) := by
    rw [← hc, List.getD_eq_getElem?_getD, List.getElem?_eq_getElem hk]
    simp
  rw [List.set_eq_take_append_cons_drop, if_pos hk]
  exact decB_other (T.take k) (T.drop (k + 1)) c d hne (by rw [← e]; exact h)
theorem slice_len {B : Nat} {e : TypeId} {size : Nat} {v : Value} {n : Nat} {xs : List Value} {w : World} (h : w.ownsRow B e size v n xs) : ∃ a c, v = .slice a n c := by
  rcases h.2 with ⟨rfl, rfl⟩ | ⟨g, cap, cur, rfl, _⟩
  · exact ⟨_, _, rfl⟩
  · exact ⟨_, _, rfl⟩
theorem fr_of (T rest : List UInt8) (n : Nat) (hn : T.length = n) (h1 : n ≤ 1100) : frB (n2 n ++ T ++ rest) = true ∧ frame (n2 n ++ T ++ rest) = T := by
  have e : n2 n ++ T ++ rest = n2 n ++ (T ++ rest) := List.append_assoc _ _ _
  have eb : b2 (n2 n ++ (T ++ rest)) = n := b2_n2 n _ (by omega) (by omega)
  have et : t2 (n2 n ++ (T ++ rest)) = T ++ rest := t2_n2 n _
  constructor
  · rw [e]; unfold frB; rw [eb, et]; simp [n2_len]; omega
  · rw [e]; unfold frame; rw [eb, et, Int.toNat_natCast, ← hn]; exact List.take_left
theorem scan_one (T rest : List UInt8) (n : Nat) (hn : T.length = n) (h1 : n ≤ 1100) (h : decB T = true) : scanC (n2 n ++ T ++ rest) = (1 + (scanC rest).1, 2 + n + (scanC rest).2) := by
  obtain ⟨ha, hb⟩ := fr_of T rest n hn h1
  have e : (n2 n ++ T ++ rest).drop (2 + n) = rest := by
    have : (n2 n ++ T).length = 2 + n := by rw [List.length_append, n2_len, hn]
    rw [← this]; exact List.drop_left
  rw [scanC_yes _ ⟨ha, by rw [hb]; exact h⟩, hb, hn, e]
theorem scan_back (T : List UInt8) (n : Nat) (hn : T.length = n) (h1 : n ≤ 1100) (h : decB T = true) : scanC (n2 n ++ T ++ (n2 n ++ T) ++ (n2 n ++ T).take (n + 1)) = (2, 2 * n + 4) := by
  have hpos : 0 < n := by
    rcases Nat.eq_zero_or_pos n with h0 | h0
    · subst h0
      have : T = [] := List.eq_nil_of_length_eq_zero hn
      subst this
      revert h; decide +kernel
    · exact h0
  rw [List.append_assoc (n2 n ++ T), scan_one T _ n hn h1 h, scan_one T _ n hn h1 h]
  have e : (n2 n ++ T).take (n + 1) = n2 n ++ T.take (n - 1) := by
    rw [List.take_append, n2_len, List.take_of_length_le (by rw [n2_len]; omega), show n + 1 - 2 = n - 1 by omega]
  have hz : scanC ((n2 n ++ T).take (n + 1)) = (0, 0) := by
    rw [e]
    apply scanC_no
    intro hh
    have hf := hh.1
    unfold frB at hf
    rw [b2_n2 n _ (by omega) (by omega), t2_n2] at hf
    simp at hf
    omega
  rw [hz]
  refine Prod.ext ?_ ?_
  · show 1 + (1 + 0) = 2; rfl
  · show 2 + n + (2 + n + 0) = 2 * n + 4; omega
theorem S_app (a b : List UInt8) : S a ++ S b = S (a ++ b) := by
  apply ByteArray.ext; simp [S]
theorem S_x (a : List UInt8) : S a ++ { data := #[120] } = S (a ++ [120]) := S_app a [120]
theorem enc_len (r : Rc) (hm : mayB r = true) : 3 ≤ (enc r).length ∧ (enc r).length ≤ 1100 := by
  have h := body_len r hm
  have h1 : 1 ≤ (body r).length := by
    unfold body
    repeat' split
    all_goals simp
  unfold enc
  rw [List.length_append, n2_len]
  omega
structure MayFine (r : Rc) : Prop where
  l1 : r.items.length ≤ 1000000
  l2 : r.outs.length ≤ 1000000
  i : Fine r.it
  is : ∀ x ∈ r.items, Fine x
  es : ∀ x ∈ r.outs, Fine x.it
theorem may_fine {r : Rc} (hm : mayB r = true) : MayFine r := by
  have hk := may_kind hm
  obtain ⟨K, s, i, m, is, es⟩ := r
  simp only at hk
  have nob : nobB ⟨K, s, i, m, is, es⟩ = true → is = [] ∧ es = [] := fun h => ⟨(nobB_eq h).2.1, (nobB_eq h).2.2⟩
  have fin : Fine i → is = [] ∧ es = [] → MayFine ⟨K, s, i, m, is, es⟩ := by
    rintro h ⟨rfl, rfl⟩
    exact ⟨by simp, by simp, h, by simp, by simp⟩
  have fz : noIt i = true → Fine i := fun h => by rw [noIt_eq h]; exact fine0
  rcases hk with rfl | rfl | rfl | rfl | rfl | rfl | rfl | rfl
  · simp [mayB] at hm; exact fin (fine_of hm.1.2) (nob hm.2)
  · simp [mayB] at hm
    refine fin ?_ (nob hm.2)
    have h := hm.1.2
    simp [stB] at h
    exact ⟨by rw [h.1]; exact fine0.p, by rw [h.2]; exact fine0.p⟩
  · simp [mayB] at hm; exact fin (fz hm.1.2) (nob hm.2)
  · simp [mayB] at hm; exact fin (fine_of hm.1.2) (nob hm.2)
  · simp [mayB] at hm; exact fin (fz hm.1.2) (nob hm.2)
  · simp [mayB, baseB, itemsB, outsB] at hm
    obtain ⟨⟨_, h2⟩, ⟨_, hl, hc⟩, hl', hc'⟩ := hm
    exact ⟨by show is.length ≤ _; omega, by show es.length ≤ _; omega, fz h2, fun x hx => fine_of (chk_ok hc x hx), fun x hx => fine_of (chkE_ok hc' x hx).2⟩
  · simp [mayB] at hm; exact fin (fine_of hm.1.2) (nob hm.2)
  · simp [mayB] at hm; exact fin (fz hm.1.2) (nob hm.2)

end Go.Proofs.Ytammnaafdhhjaaa
