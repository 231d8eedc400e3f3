/- Ytammnaafdhhjaaa: Back, of a record that may be. -/
import Derived.Test.YtammnaafdhhjaaaB2
namespace Go.Proofs.Ytammnaafdhhjaaa
open Go.RowKit

set_option maxHeartbeats 4000000 in
set_option maxRecDepth 100000 in
theorem back_yes (K s : Int) (i : It) (m : Mk) (is : List It) (es : List En) (vi vo : Value) (l : List UInt8) (at' by' : Int) (w : World) (hi : LiesI w vi is) (ho : LiesE w vo es) (wf : WfR ⟨K, s, i, m, is, es⟩)
    (ha0 : -9223372036854775808 ≤ at') (ha1 : at' ≤ 9223372036854775807) (hb0 : -9223372036854775808 ≤ by') (hb1 : by' ≤ 9223372036854775807) (hm : mayB ⟨K, s, i, m, is, es⟩ = true) :
    Calls Try.prog 5 #[rv K s i m vi vo, .string (S l), .int .i64 at', .int .i64 by'] w fun e w' => e = .returned (.bool true) ∧ w.grownBy w' none := by
  have HI := Hid.mk' hi
  have HO := Hid.mk' ho
  have HW := Hid.mk' wf
  have HM0 := Hid.mk' hm
  clear hi ho wf hm
  unfold rv
  obtain ⟨ai, ci, rfl, _⟩ := HI.out
  obtain ⟨ao, co, rfl, _⟩ := HO.out
  have hT1 := Hid.mk' (decB_enc _ HM0.out HW.out)
  have hT2 := Hid.mk' (dec_enc _ HM0.out HW.out)
  have hT3 := Hid.mk' (decB_long _ HM0.out HW.out 120)
  have hT4 := Hid.mk' (decB_short _ HM0.out HW.out)
  have hT5 : Hid (3 ≤ (enc ⟨K, s, i, m, is, es⟩).length ∧ (enc ⟨K, s, i, m, is, es⟩).length ≤ 1100) := enc_len _ HM0.out
  have hFI := Hid.mk' (may_fine HM0.out)
  obtain ⟨T, hT⟩ : ∃ T, enc ⟨K, s, i, m, is, es⟩ = T := ⟨_, rfl⟩
  have HT := Hid.mk' hT
  rw [hT] at hT1 hT2 hT3 hT4 hT5
  clear hT
  obtain ⟨n, hn⟩ : ∃ n, T.length = n := ⟨_, rfl⟩
  rw [hn] at hT4 hT5
  have hn0 : 3 ≤ n := hT5.out.1
  have hn1 : n ≤ 1100 := hT5.out.2
  have HN := Hid.mk' hn
  have hsz : (S T).size = n := by rw [S_size, hn]
  have hne : (S T).toList.isEmpty = false := by
    rw [S_toList]; cases T with
    | nil => simp at hn; omega
    | cons _ _ => rfl
  clear hn
  have hsf := run_store_float
  go_enter Try.func5, Try.ntmps5
  go_wp2_with fail
  refine Calls.mono (works_any _) ?_
  rintro e w1 ⟨rfl, g1⟩
  have G1 := Hid.mk' ((World.grownBy_alloc w _ none).trans g1)
  have a0 : w1.cell? ⟨w.heap.size, 0, none⟩ = some (.int .i64 K) := g1.cell (by go_simp) (by simp)
  have a1 : w1.cell? ⟨w.heap.size, 1, none⟩ = some (.int .i64 s) := g1.cell (by go_simp) (by simp)
  have a2 : w1.cell? ⟨w.heap.size, 2, none⟩ = some (.int .i64 i.sh) := g1.cell (by go_simp) (by simp)
  have a3 : w1.cell? ⟨w.heap.size, 3, none⟩ = some (.int .i64 i.nu) := g1.cell (by go_simp) (by simp)
  have a4 : w1.cell? ⟨w.heap.size, 4, none⟩ = some (.float .f32 i.pl) := g1.cell (by go_simp) (by simp)
  have a5 : w1.cell? ⟨w.heap.size, 5, none⟩ = some (.float .f32 i.sp) := g1.cell (by go_simp) (by simp)
  have a6 : w1.cell? ⟨w.heap.size, 6, none⟩ = some (.int .i64 m.g) := g1.cell (by go_simp) (by simp)
  have a7 : w1.cell? ⟨w.heap.size, 7, none⟩ = some (.int .i64 m.m) := g1.cell (by go_simp) (by simp)
  have a8 : w1.cell? ⟨w.heap.size, 8, none⟩ = some (.int .i64 m.s) := g1.cell (by go_simp) (by simp)
  have a9 : w1.cell? ⟨w.heap.size, 9, none⟩ = some (.int .i64 m.a) := g1.cell (by go_simp) (by simp)
  have a10 : w1.cell? ⟨w.heap.size, 10, none⟩ = some (.int .i64 m.n) := g1.cell (by go_simp) (by simp)
  have a11 : w1.cell? ⟨w.heap.size, 11, none⟩ = some (.slice ai is.length ci) := g1.cell (by go_simp) (by simp)
  have a12 : w1.cell? ⟨w.heap.size, 12, none⟩ = some (.slice ao es.length co) := g1.cell (by go_simp) (by simp)
  go_wp2_with fail
  refine Calls.mono (encode_yes ⟨K, s, i, m, is, es⟩ (.slice ai is.length ci) (.slice ao es.length co) _ (HI.out.grown G1.out) (HO.out.grown G1.out) HM0.out HW.out) ?_
  rintro e w2 ⟨rfl, g2⟩
  rw [HT.out]
  have G2 := Hid.mk' (G1.out.trans g2)
  have b0 : w2.cell? ⟨w.heap.size, 0, none⟩ = some (.int .i64 K) := g2.cell (by go_simp) (by simp)
  have b1 : w2.cell? ⟨w.heap.size, 1, none⟩ = some (.int .i64 s) := g2.cell (by go_simp) (by simp)
  have b2 : w2.cell? ⟨w.heap.size, 2, none⟩ = some (.int .i64 i.sh) := g2.cell (by go_simp) (by simp)
  have b3 : w2.cell? ⟨w.heap.size, 3, none⟩ = some (.int .i64 i.nu) := g2.cell (by go_simp) (by simp)
  have b4 : w2.cell? ⟨w.heap.size, 4, none⟩ = some (.float .f32 i.pl) := g2.cell (by go_simp) (by simp)
  have b5 : w2.cell? ⟨w.heap.size, 5, none⟩ = some (.float .f32 i.sp) := g2.cell (by go_simp) (by simp)
  have b6 : w2.cell? ⟨w.heap.size, 6, none⟩ = some (.int .i64 m.g) := g2.cell (by go_simp) (by simp)
  have b7 : w2.cell? ⟨w.heap.size, 7, none⟩ = some (.int .i64 m.m) := g2.cell (by go_simp) (by simp)
  have b8 : w2.cell? ⟨w.heap.size, 8, none⟩ = some (.int .i64 m.s) := g2.cell (by go_simp) (by simp)
  have b9 : w2.cell? ⟨w.heap.size, 9, none⟩ = some (.int .i64 m.a) := g2.cell (by go_simp) (by simp)
  have b10 : w2.cell? ⟨w.heap.size, 10, none⟩ = some (.int .i64 m.n) := g2.cell (by go_simp) (by simp)
  have b11 : w2.cell? ⟨w.heap.size, 11, none⟩ = some (.slice ai is.length ci) := g2.cell (by go_simp) (by simp)
  have b12 : w2.cell? ⟨w.heap.size, 12, none⟩ = some (.slice ao es.length co) := g2.cell (by go_simp) (by simp)
  clear a0 a1 a2 a3 a4 a5 a6 a7 a8 a9 a10 a11 a12
  go_wp2_with fail
  refine Calls.mono (decode_any T _) ?_
  rintro e w3 ⟨g3, (⟨hd0, rfl⟩ | ⟨_, ui, uo, rfl, oi, oo, _⟩)⟩
  · rw [hT1.out] at hd0; cases hd0
  rw [hT2.out] at oi oo ⊢
  obtain ⟨bi, mi, di, rfl⟩ := slice_of oi
  obtain ⟨bo, mo, do', rfl⟩ := slice_of oo
  have LI : Hid (LiesI w3 (.slice bi mi di) is) := Lies.of_own oi
  have LO : Hid (LiesE w3 (.slice bo mo do') es) := Lies.of_own oo
  clear oi oo
  have G3 := Hid.mk' (G2.out.trans g3)
  have c0 : w3.cell? ⟨w.heap.size, 0, none⟩ = some (.int .i64 K) := g3.cell (by go_simp) (by simp)
  have c1 : w3.cell? ⟨w.heap.size, 1, none⟩ = some (.int .i64 s) := g3.cell (by go_simp) (by simp)
  have c2 : w3.cell? ⟨w.heap.size, 2, none⟩ = some (.int .i64 i.sh) := g3.cell (by go_simp) (by simp)
  have c3 : w3.cell? ⟨w.heap.size, 3, none⟩ = some (.int .i64 i.nu) := g3.cell (by go_simp) (by simp)
  have c4 : w3.cell? ⟨w.heap.size, 4, none⟩ = some (.float .f32 i.pl) := g3.cell (by go_simp) (by simp)
  have c5 : w3.cell? ⟨w.heap.size, 5, none⟩ = some (.float .f32 i.sp) := g3.cell (by go_simp) (by simp)
  have c6 : w3.cell? ⟨w.heap.size, 6, none⟩ = some (.int .i64 m.g) := g3.cell (by go_simp) (by simp)
  have c7 : w3.cell? ⟨w.heap.size, 7, none⟩ = some (.int .i64 m.m) := g3.cell (by go_simp) (by simp)
  have c8 : w3.cell? ⟨w.heap.size, 8, none⟩ = some (.int .i64 m.s) := g3.cell (by go_simp) (by simp)
  have c9 : w3.cell? ⟨w.heap.size, 9, none⟩ = some (.int .i64 m.a) := g3.cell (by go_simp) (by simp)
  have c10 : w3.cell? ⟨w.heap.size, 10, none⟩ = some (.int .i64 m.n) := g3.cell (by go_simp) (by simp)
  have c11 : w3.cell? ⟨w.heap.size, 11, none⟩ = some (.slice ai is.length ci) := g3.cell (by go_simp) (by simp)
  have c12 : w3.cell? ⟨w.heap.size, 12, none⟩ = some (.slice ao es.length co) := g3.cell (by go_simp) (by simp)
  clear b0 b1 b2 b3 b4 b5 b6 b7 b8 b9 b10 b11 b12
  have z3 := G3.out.size
  have x3 : w.heap.size < w3.heap.size := World.block_lt_of_cell? w3 _ c0
  have x3' : w.heap.size ≠ w3.heap.size := by omega
  unfold rv
  go_wp2_with fail
  refine Calls.mono (sameRecord_any K s i m is es (.slice bi mi di) (.slice bo mo do') (.slice ai is.length ci) (.slice ao es.length co) _ (LI.out.grown (World.grownBy_alloc _ _ _)) (LO.out.grown (World.grownBy_alloc _ _ _)) (HI.out.grown (grownBy_alloc' G3.out _)) (HO.out.grown (grownBy_alloc' G3.out _)) hFI.out.l1 hFI.out.l2 hFI.out.i hFI.out.is hFI.out.es) ?_
  rintro e w4 ⟨rfl, g4⟩
  have G4 := Hid.mk' ((grownBy_alloc' G3.out _).trans g4)
  clear c0 c1 c2 c3 c4 c5 c6 c7 c8 c9 c10 c11 c12
  go_wp2_with fail
  rw [S_x T]
  refine Calls.mono (decode_no (T ++ [120]) _ hT3.out) ?_
  rintro e w5 ⟨rfl, g5⟩
  have G5 := Hid.mk' (G4.out.trans g5)
  unfold zeroV rv
  go_wp2_with fail
  rw [S_take]
  refine Calls.mono (decode_no (T.take (n - 1)) _ hT4.out) ?_
  rintro e w6 ⟨rfl, g6⟩
  have G6 := Hid.mk' ((grownBy_alloc' G5.out _).trans g6)
  unfold zeroV rv
  obtain ⟨w7, cc, hcv, g7, z7, c7, f7⟩ := to_bytes (w6.alloc (.cells #[.int .i64 0, .int .i64 0, .int .i64 it0.sh, .int .i64 it0.nu, .float .f32 it0.pl, .float .f32 it0.sp, .int .i64 mk0.g, .int .i64 mk0.m, .int .i64 mk0.s, .int .i64 mk0.a, .int .i64 mk0.n, .slice none 0 0, .slice none 0 0] 32)) T n hsz
  have G7 := Hid.mk' ((grownBy_alloc' G6.out _).trans g7)
  simp only [World.size_alloc] at hcv z7 c7 f7
  obtain ⟨k0, k1⟩ := pickI_bd at' n (by omega)
  go_wp2_with fail
  refine Calls.mono (pick_any at' n _ ha0 ha1 (by omega) (by omega)) ?_
  rintro e w8 ⟨rfl, rfl⟩
  obtain ⟨k, hk⟩ := Int.eq_ofNat_of_zero_le k0
  rw [hk] at k1 ⊢
  have hkn : k < n := by omega
  obtain ⟨p0, p1⟩ := pickI_bd by' 255 (by omega)
  have ck := c7 k hkn
  have fk := f7 k hkn
  obtain ⟨cb, hcb⟩ : ∃ cb, T.getD k 0 = cb := ⟨_, rfl⟩
  rw [hcb] at ck
  have HCB := Hid.mk' hcb
  clear hcb
  unfold by8 at ck
  have cb0 := cb.toNat_lt
  have C7 := Hid.mk' c7
  have F7 := Hid.mk' f7
  clear c7 f7
  generalize hpq : pickI by' 255 = q at *
  have HPQ := Hid.mk' hpq
  clear hpq
  clear k0 hk g7
  have hD : Hid (IntKind.u8.wrap (cb.toNat + IntKind.u8.wrap (IntKind.i64.wrap (1 + q))) = ((cb.toNat : Int) + 1 + q) % 256) := by
    show _ = _
    have e1 : IntKind.i64.wrap (1 + q) = 1 + q := by simp [IntKind.wrap, IntKind.bits, IntKind.signed]; omega
    rw [e1, IntKind.wrap_u8', IntKind.wrap_u8']; omega
  obtain ⟨dd, hdd, hne2⟩ : ∃ dd : UInt8, by8 dd = .int .u8 (((cb.toNat : Int) + 1 + q) % 256) ∧ cb ≠ dd := by
    refine ⟨u8 (((cb.toNat : Int) + 1 + q) % 256), by8_u8 _ (by omega) (by omega), fun e => ?_⟩
    have h1 : (cb.toNat : Int) = ((u8 (((cb.toNat : Int) + 1 + q) % 256)).toNat : Int) := by rw [← e]
    rw [u8_toNat _ (by omega) (by omega)] at h1
    omega
  have HDD := Hid.mk' hdd
  have hT6 : Hid (decB (T.set k dd) = false) := dec_set T k cb dd (by rw [HN.out]; exact hkn) HCB.out hne2 hT1.out
  have E2 : Hid (#[.int .u8 ((n : Int) / 256), .int .u8 ((n : Int) % 256)] = ((n2 n).map by8).toArray) := by
    show _ = _
    simp only [n2, List.map_cons, List.map_nil]
    rw [by8_u8 _ (by omega) (by omega), by8_u8 _ (by omega) (by omega)]
  clear hdd hne2
  go_wp2_with fail
  go_region_with (go_at_call 24; refine Calls.mono (pick_any by' 255 _ hb0 hb1 (by omega) (by omega)) ?_; rintro e w9 ⟨rfl, rfl⟩; rw [HPQ.out])
  all_goals
    rw [hD.out, ← HDD.out]
    have hcs := run_str_cells (w8.setCell ⟨w6.heap.size + 1, k, none⟩ (by8 dd)).drew (w6.heap.size + 1) n cc (T.set k dd) (by rw [List.length_set]; exact HN.out) (fun j hj => set_cell w8 (w6.heap.size + 1) k T dd ck (fun j hj => C7.out j (by rw [← HN.out]; exact hj)) j (by rw [HN.out]; exact hj))
    have G9 : Hid (w.grownBy (w8.setCell ⟨w6.heap.size + 1, k, none⟩ (by8 dd)).drew none) := grownBy_drew (grownBy_store G7.out (by have := G6.out.size; omega) _ _)
    go_wp2_with fail
    refine Calls.mono (decode_no (T.set k dd) _ hT6.out) ?_
    rintro e w10 ⟨rfl, g10⟩
    have G10 := Hid.mk' (G9.out.trans g10)
    unfold zeroV rv
    have k2 := run_str _ _ _ _ (own_new (w10.alloc (.cells #[.int .i64 0, .int .i64 0, .int .i64 it0.sh, .int .i64 it0.nu, .float .f32 it0.pl, .float .f32 it0.sp, .int .i64 mk0.g, .int .i64 mk0.m, .int .i64 mk0.s, .int .i64 mk0.a, .int .i64 mk0.n, .slice none 0 0, .slice none 0 0] 32)) (n2 n) #[.int .u8 ((n : Int) / 256), .int .u8 ((n : Int) % 256)] E2.out (by rw [n2_len]; omega))
    simp only [World.size_alloc, n2_len] at k2
    obtain ⟨O, hO⟩ : ∃ O, n2 n ++ T = O := ⟨_, rfl⟩
    have HOO := Hid.mk' hO
    have o1 : S (n2 n) ++ S T = S O := by rw [S_app, hO]
    have oL : Hid (O.length = n + 2) := by show O.length = n + 2; rw [← hO, List.length_append, n2_len, HN.out]; omega
    have o2 : S O ++ S O = S (O ++ O) := S_app O O
    have o3 : S (O ++ O) ++ S (O.take (n + 1)) = S (O ++ O ++ O.take (n + 1)) := S_app _ _
    have o4 : (S O).size = n + 2 := by rw [S_size]; exact oL.out
    have o5 : (S (O ++ O)).size = 2 * n + 4 := by rw [S_size, List.length_append, oL.out]; omega
    have o6 : (S O).extract 0 (n + 1) = S (O.take (n + 1)) := S_take _ _
    have o7 : (S (O.take (n + 1))).size = n + 1 := by rw [S_size, List.length_take, oL.out]; omega
    have o8 : (S (n2 n)).size = 2 := by rw [S_size]; rfl
    have HSC : Hid (scanC (O ++ (O ++ O.take (n + 1))) = (2, 2 * n + 4)) := by rw [← hO, ← List.append_assoc]; exact scan_back T n HN.out hn1 hT1.out
    clear hO
    go_wp2_with fail
    refine Calls.mono (scan_any (O ++ (O ++ O.take (n + 1))) _ (by rw [List.length_append, List.length_append, List.length_take, oL.out]; omega)) ?_
    rintro e w11 ⟨v11, xs, rfl, own11, g11⟩
    rw [HSC.out] at own11 ⊢
    obtain ⟨a11, c11, rfl⟩ := slice_len own11
    have G11 := Hid.mk' ((grownBy_alloc' (grownBy_alloc' G10.out _) _).trans g11)
    clear own11
    go_wp2_with fail
    refine Calls.mono (decode_any l _) ?_
    rintro e wd ⟨gd, (⟨hd0, rfl⟩ | ⟨hd1, ui, uo, rfl, oi, oo, _⟩)⟩
    · unfold zeroV rv
      go_wp2_with fail
      go_ret
      exact ⟨rfl, grownBy_alloc' (G11.out.trans gd) _⟩
    · obtain ⟨hdm, hdf⟩ := decB_form hd1
      have HD := Hid.mk' (show l = enc (dec l) from hdf)
      have HDW := Hid.mk' (dec_wf l)
      obtain ⟨bi, mi, di, rfl⟩ := slice_of oi
      obtain ⟨bo, mo, do', rfl⟩ := slice_of oo
      obtain ⟨p, hp⟩ : ∃ p, dec l = p := ⟨_, rfl⟩
      rw [hp] at oi oo HD HDW hdm ⊢
      have LI : Hid (LiesI wd (.slice bi mi di) p.items) := Lies.of_own oi
      have LO : Hid (LiesE wd (.slice bo mo do') p.outs) := Lies.of_own oo
      have HM := Hid.mk' hdm
      clear hp oi oo hdf hdm hd1
      unfold rv
      go_wp2_with fail
      refine Calls.mono (encode_yes p (.slice bi mi di) (.slice bo mo do') _ (LI.out.grown (World.grownBy_alloc _ _ _)) (LO.out.grown (World.grownBy_alloc _ _ _)) HM.out HDW.out) ?_
      rintro e we ⟨rfl, ge⟩
      rw [← HD.out]
      go_wp2_with fail
      go_ret
      exact ⟨rfl, (grownBy_alloc' (G11.out.trans gd) _).trans ge⟩
end Go.Proofs.Ytammnaafdhhjaaa
