/- Ytammnaafdhhjaaa: lists put behind a slice. -/
import Derived.Test.YtammnaafdhhjaaaP2
namespace Go.Proofs.Ytammnaafdhhjaaa
open Go.RowKit

set_option maxHeartbeats 2000000 in
theorem putItems_x (B : Nat) (v : Value) (l : List UInt8) (is : List It) (g off c : Nat) (w : World) (hown : Own B w v l) (hB : B ≤ w.heap.size) (hl : l.length ≤ 500000) (hn : is.length ≤ 16) (hpos : 0 < is.length)
    (hc : ∀ j u, (is.flatMap It.cells)[j]? = some u → w.cell? ⟨g, off + j, none⟩ = some u) (hg : v.ownBlock ≠ some g) (hok : ∀ i ∈ is, ItOk i) :
    Calls Try.prog 57 #[v, .slice (some ⟨g, off, none⟩) is.length c] w fun e w' => ∃ v', e = .returned v' ∧ Put B w w' v v' (l ++ eIts is) := by
  obtain ⟨n, hL⟩ : ∃ n, is.length = n := ⟨_, rfl⟩
  rw [hL] at hn hpos ⊢
  have HL : Hid (is.length = n) := hL
  clear hL
  have HC : Hid (∀ j u, (is.flatMap It.cells)[j]? = some u → w.cell? ⟨g, off + j, none⟩ = some u) := hc
  have HG : Hid (g < w.heap.size) := by
    have := hc 0 _ (by rw [show (0 : Nat) = 4 * 0 + 0 from rfl, flat_at4 is 0 0 (by rw [HL.out]; omega) (by omega)]; rfl)
    exact World.block_lt_of_cell? w _ this
  clear hc
  have HO : Hid (Own B w v l) := hown
  have HK := Hid.mk' hok
  have HV := Hid.mk' hg
  clear hown hok hg
  have hsf := run_store_float
  have hu : (n : Int) % 256 = (n : Int) := by omega
  have E : Hid (#[.int .u8 (n : Int)] = (([u8 is.length]).map by8).toArray) := by
    show _ = _
    simp only [List.map_cons, List.map_nil]
    rw [by8_u8 _ (by rw [HL.out]; omega) (by rw [HL.out]; omega), HL.out]
  go_enter Try.func57, Try.ntmps57
  go_wp2_with (at_builtin; refine wp_app8 rfl _ _ rfl B _ l rfl (HO.out.alloc _) ⟨w.heap.size, 0, none⟩ 1 1 [u8 is.length] rfl rfl ?c1 ?c2 ?c3 ?c4)
  case c1 => exact cells_u8 w [u8 is.length] _ rfl _ E.out
  case c2 => omega
  case c3 => simp; omega
  case c4 =>
  intro v1 w1 p1
  have P1 := p1.pre (World.grownBy_alloc _ _ _)
  clear p1 hu
  go_wp2_with fail
  go_loopw [0, 15] (fun b i wr => ∃ k : Nat, k ≤ n ∧ i = .int .i64 k ∧ Put B w wr v b (l ++ [u8 is.length] ++ (is.take k).flatMap eIt)) (fun _ i _ => n - (intOf i).toNat)
  case atStart => exact ⟨0, by omega, rfl, by simpa using P1⟩
  case round =>
    obtain ⟨k, hk, rfl, pk⟩ := hrel
    have PK := Hid.mk' pk
    clear pk
    by_cases hlt : k < n
    · have hkl : k < is.length := by rw [HL.out]; exact hlt
      have hz := PK.out.g.size
      have hF := Hid.mk' (flat_take_it is k hkl)
      have hLn : (l ++ [u8 is.length] ++ (is.take k).flatMap eIt).length ≤ 600000 := by
        rw [List.length_append, List.length_append, flat_it_len, List.length_take]; simp; omega
      obtain ⟨i, hi⟩ : ∃ i, is[k] = i := ⟨_, rfl⟩
      have HI := Hid.mk' (HK.out i (by rw [← hi]; exact List.getElem_mem hkl))
      have d : ∀ j (hj : j < 4) u, i.cells[j]? = some u → wr.cell? ⟨g, off + k * 4 + j, none⟩ = some u := fun j hj u hu => by
        have := HC.out (4 * k + j) u (by rw [flat_at4 is k j hkl hj, hi]; exact hu)
        rw [show off + (4 * k + j) = off + k * 4 + j by omega] at this
        exact PK.out.keep this HV.out
      have d0 := d 0 (by omega) _ rfl
      have d1 := d 1 (by omega) _ rfl
      have d2 := d 2 (by omega) _ rfl
      have d3 := d 3 (by omega) _ rfl
      clear d
      rw [hi] at hF
      clear hi
      rw [Nat.add_zero] at d0
      generalize hM : l ++ [u8 is.length] ++ (is.take k).flatMap eIt = M at *
      have HM := Hid.mk' hM
      clear hM
      have hBr : B ≤ wr.heap.size := by omega
      have hfr := Hid.mk' (PK.out.own.fresh (Nat.le_refl _))
      go_wp2_with fail
      refine Calls.mono (putThing_any B u0 M i _ (PK.out.own.alloc _) (by simp; omega) (by omega) HI.out) ?_
      rintro e w2 ⟨v2, rfl, p2⟩
      go_wp2_with fail
      refine ⟨⟨k + 1, by omega, by go_num, ?_⟩, by simp [intOf]; omega⟩
      rw [hF.out, ← List.append_assoc, HM.out]
      exact PK.out.trans (p2.pre (World.grownBy_alloc _ _ _))
    · have hkn : k = n := by omega
      go_wp2
      go_ret
      refine ⟨_, rfl, ?_⟩
      have := PK.out
      rw [List.take_of_length_le (by rw [HL.out]; omega)] at this
      rw [List.append_assoc] at this
      exact this

set_option maxHeartbeats 2000000 in
theorem putOutbox_x (B : Nat) (v : Value) (l : List UInt8) (is : List En) (g off c : Nat) (w : World) (hown : Own B w v l) (hB : B ≤ w.heap.size) (hl : l.length ≤ 500000) (hn : is.length ≤ 8) (hpos : 0 < is.length)
    (hc : ∀ j u, (is.flatMap En.cells)[j]? = some u → w.cell? ⟨g, off + j, none⟩ = some u) (hg : v.ownBlock ≠ some g) (hok : ∀ i ∈ is, EnOk i) :
    Calls Try.prog 58 #[v, .slice (some ⟨g, off, none⟩) is.length c] w fun e w' => ∃ v', e = .returned v' ∧ Put B w w' v v' (l ++ eEns is) := by
  obtain ⟨n, hL⟩ : ∃ n, is.length = n := ⟨_, rfl⟩
  rw [hL] at hn hpos ⊢
  have HL : Hid (is.length = n) := hL
  clear hL
  have HC : Hid (∀ j u, (is.flatMap En.cells)[j]? = some u → w.cell? ⟨g, off + j, none⟩ = some u) := hc
  have HG : Hid (g < w.heap.size) := by
    have := hc 0 _ (by rw [show (0 : Nat) = 5 * 0 + 0 from rfl, flat_at5 is 0 0 (by rw [HL.out]; omega) (by omega)]; rfl)
    exact World.block_lt_of_cell? w _ this
  clear hc
  have HO : Hid (Own B w v l) := hown
  have HK := Hid.mk' hok
  have HV := Hid.mk' hg
  clear hown hok hg
  have hsf := run_store_float
  have hu : (n : Int) % 256 = (n : Int) := by omega
  have E : Hid (#[.int .u8 (n : Int)] = (([u8 is.length]).map by8).toArray) := by
    show _ = _
    simp only [List.map_cons, List.map_nil]
    rw [by8_u8 _ (by rw [HL.out]; omega) (by rw [HL.out]; omega), HL.out]
  go_enter Try.func58, Try.ntmps58
  go_wp2_with (at_builtin; refine wp_app8 rfl _ _ rfl B _ l rfl (HO.out.alloc _) ⟨w.heap.size, 0, none⟩ 1 1 [u8 is.length] rfl rfl ?c1 ?c2 ?c3 ?c4)
  case c1 => exact cells_u8 w [u8 is.length] _ rfl _ E.out
  case c2 => omega
  case c3 => simp; omega
  case c4 =>
  intro v1 w1 p1
  have P1 := p1.pre (World.grownBy_alloc _ _ _)
  clear p1 hu
  go_wp2_with fail
  go_loopw [0, 15] (fun b i wr => ∃ k : Nat, k ≤ n ∧ i = .int .i64 k ∧ Put B w wr v b (l ++ [u8 is.length] ++ (is.take k).flatMap eEn)) (fun _ i _ => n - (intOf i).toNat)
  case atStart => exact ⟨0, by omega, rfl, by simpa using P1⟩
  case round =>
    obtain ⟨k, hk, rfl, pk⟩ := hrel
    have PK := Hid.mk' pk
    clear pk
    by_cases hlt : k < n
    · have hkl : k < is.length := by rw [HL.out]; exact hlt
      have hz := PK.out.g.size
      have hF := Hid.mk' (flat_take_en is k hkl)
      have hLn : (l ++ [u8 is.length] ++ (is.take k).flatMap eEn).length ≤ 600000 := by
        rw [List.length_append, List.length_append, flat_en_len, List.length_take]; simp; omega
      obtain ⟨i, hi⟩ : ∃ i, is[k] = i := ⟨_, rfl⟩
      have HI := Hid.mk' (HK.out i (by rw [← hi]; exact List.getElem_mem hkl))
      have d : ∀ j (hj : j < 5) u, i.cells[j]? = some u → wr.cell? ⟨g, off + k * 5 + j, none⟩ = some u := fun j hj u hu => by
        have := HC.out (5 * k + j) u (by rw [flat_at5 is k j hkl hj, hi]; exact hu)
        rw [show off + (5 * k + j) = off + k * 5 + j by omega] at this
        exact PK.out.keep this HV.out
      have d0 := d 0 (by omega) _ rfl
      have d1 := d 1 (by omega) _ rfl
      have d2 := d 2 (by omega) _ rfl
      have d3 := d 3 (by omega) _ rfl
      have d4 := d 4 (by omega) _ rfl
      clear d
      rw [hi] at hF
      clear hi
      rw [Nat.add_zero] at d0
      generalize hM : l ++ [u8 is.length] ++ (is.take k).flatMap eEn = M at *
      have HM := Hid.mk' hM
      clear hM
      have hBr : B ≤ wr.heap.size := by omega
      have hfr := Hid.mk' (PK.out.own.fresh (Nat.le_refl _))
      go_wp2_with fail
      refine Calls.mono (putNumber_any B u0 M i.sq _ (PK.out.own.alloc _) (by simp; omega) (by omega) HI.out.a HI.out.b) ?_
      rintro e w2 ⟨v2, rfl, p2⟩
      have c1 : w2.cell? ⟨wr.heap.size, 1, none⟩ = some (.int .i64 i.it.sh) := p2.keep (by go_simp) hfr.out
      have c2 : w2.cell? ⟨wr.heap.size, 2, none⟩ = some (.int .i64 i.it.nu) := p2.keep (by go_simp) hfr.out
      have c3 : w2.cell? ⟨wr.heap.size, 3, none⟩ = some (.float .f32 i.it.pl) := p2.keep (by go_simp) hfr.out
      have c4 : w2.cell? ⟨wr.heap.size, 4, none⟩ = some (.float .f32 i.it.sp) := p2.keep (by go_simp) hfr.out
      have z2 := p2.g.size
      simp at z2
      go_wp2_with fail
      refine Calls.mono (putThing_any B v2 (M ++ n2 i.sq) i.it _ p2.own (by omega) (by simp only [List.length_append, n2_len]; omega) HI.out.i) ?_
      rintro e w3 ⟨v3, rfl, p3⟩
      go_wp2_with fail
      refine ⟨⟨k + 1, by omega, by go_num, ?_⟩, by simp [intOf]; omega⟩
      rw [hF.out, ← List.append_assoc, HM.out]
      have P3 := PK.out.trans ((p2.pre (World.grownBy_alloc _ _ _)).trans p3)
      simpa only [eEn, List.append_assoc] using P3
    · have hkn : k = n := by omega
      go_wp2
      go_ret
      refine ⟨_, rfl, ?_⟩
      have := PK.out
      rw [List.take_of_length_le (by rw [HL.out]; omega)] at this
      rw [List.append_assoc] at this
      exact this

end Go.Proofs.Ytammnaafdhhjaaa
