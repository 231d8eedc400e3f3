import Derived.Test.YtammnaafdhhjaaaP1
/- Ytammnaafdhhjaaa: things, marks and lists put behind a slice. -/
namespace Go.Proofs.Ytammnaafdhhjaaa
open Go.RowKit

def eIt (i : It) : List UInt8 := [u8 i.sh] ++ n2 i.nu ++ n4 i.pl ++ n4 i.sp
def eMk (m : Mk) : List UInt8 := n2 m.g ++ n2 m.m ++ n2 m.s ++ n2 m.a ++ n2 m.n
def eEn (e : En) : List UInt8 := n2 e.sq ++ eIt e.it
structure ItOk (i : It) : Prop where
  a : 0 ≤ i.sh
  b : i.sh ≤ 255
  c : 0 ≤ i.nu
  d : i.nu ≤ 65535
  p : i.pl < 4294967296
  s : i.sp < 4294967296
structure MkOk (m : Mk) : Prop where
  g0 : 0 ≤ m.g
  g1 : m.g ≤ 65535
  m0 : 0 ≤ m.m
  m1 : m.m ≤ 65535
  s0 : 0 ≤ m.s
  s1 : m.s ≤ 65535
  a0 : 0 ≤ m.a
  a1 : m.a ≤ 65535
  n0 : 0 ≤ m.n
  n1 : m.n ≤ 65535
structure EnOk (e : En) : Prop where
  a : 0 ≤ e.sq
  b : e.sq ≤ 65535
  i : ItOk e.it
theorem n2_len (n : Int) : (n2 n).length = 2 := rfl
theorem n4_len (n : Nat) : (n4 n).length = 4 := rfl
theorem eIt_len (i : It) : (eIt i).length = 11 := rfl
theorem eMk_len (m : Mk) : (eMk m).length = 10 := rfl
theorem eEn_len (e : En) : (eEn e).length = 13 := rfl

set_option maxHeartbeats 1000000 in
theorem putThing_any (B : Nat) (v : Value) (l : List UInt8) (i : It) (w : World) (hown : Own B w v l) (hB : B ≤ w.heap.size) (hl : l.length ≤ 700000) (hi : ItOk i) :
    Calls Try.prog 54 #[v, .agg #[.int .i64 i.sh, .int .i64 i.nu, .float .f32 i.pl, .float .f32 i.sp]] w fun e w' => ∃ v', e = .returned v' ∧ Put B w w' v v' (l ++ eIt i) := by
  have HO : Hid (Own B w v l) := hown
  clear hown
  have hf := Hid.mk' (HO.out.fresh (Nat.le_refl _))
  go_enter Try.func54, Try.ntmps54
  go_wp2_with fail
  refine Calls.mono (putID_any B v (l) i.sh i.nu _ (HO.out.alloc _) (by simp; omega) (by omega) hi.a hi.b hi.c hi.d) ?_
  rintro e w1 ⟨v1, rfl, p1⟩
  have y1 : B ≤ w1.heap.size := by have := p1.g.size; simp at this; omega
  have f1 := Hid.mk' (p1.far hf.out (by simp))
  have s1 : w.heap.size < w1.heap.size := by have := p1.g.size; simp at this; omega
  have c1_2 : w1.cell? ⟨w.heap.size, 2, none⟩ = some (.float .f32 i.pl) := p1.keep (by go_simp) hf.out
  have c1_3 : w1.cell? ⟨w.heap.size, 3, none⟩ = some (.float .f32 i.sp) := p1.keep (by go_simp) hf.out
  go_wp2_with fail
  refine Calls.mono (putFloat_any B v1 (l ++ [u8 i.sh] ++ n2 i.nu) i.pl _ (p1.own) y1 (by simp only [List.length_append, n2_len, List.length_cons, List.length_nil]; omega) hi.p) ?_
  rintro e w2 ⟨v2, rfl, p2⟩
  have y2 : B ≤ w2.heap.size := by have := p2.g.size; omega
  have f2 := Hid.mk' (p2.far f1.out s1)
  have s2 : w.heap.size < w2.heap.size := by have := p2.g.size; omega
  have c2_3 : w2.cell? ⟨w.heap.size, 3, none⟩ = some (.float .f32 i.sp) := p2.keep (by go_simp) f1.out
  go_wp2_with fail
  refine Calls.mono (putFloat_any B v2 (l ++ [u8 i.sh] ++ n2 i.nu ++ n4 i.pl) i.sp _ (p2.own) y2 (by simp only [List.length_append, n2_len, n4_len, List.length_cons, List.length_nil]; omega) hi.s) ?_
  rintro e w3 ⟨v3, rfl, p3⟩
  have y3 : B ≤ w3.heap.size := by have := p3.g.size; omega
  go_wp2_with fail
  go_ret
  refine ⟨v3, rfl, ?_⟩
  have P := (((p1.pre (World.grownBy_alloc _ _ _)).trans p2).trans p3)
  simp only [List.append_assoc] at P
  simpa only [eIt, List.append_assoc] using P

set_option maxHeartbeats 1000000 in
theorem putMarks_any (B : Nat) (v : Value) (l : List UInt8) (m : Mk) (w : World) (hown : Own B w v l) (hB : B ≤ w.heap.size) (hl : l.length ≤ 700000) (hm : MkOk m) :
    Calls Try.prog 56 #[v, .agg #[.int .i64 m.g, .int .i64 m.m, .int .i64 m.s, .int .i64 m.a, .int .i64 m.n]] w fun e w' => ∃ v', e = .returned v' ∧ Put B w w' v v' (l ++ eMk m) := by
  have HO : Hid (Own B w v l) := hown
  clear hown
  have hf := Hid.mk' (HO.out.fresh (Nat.le_refl _))
  go_enter Try.func56, Try.ntmps56
  go_wp2_with fail
  refine Calls.mono (putNumber_any B v (l) m.g _ (HO.out.alloc _) (by simp; omega) (by omega) hm.g0 hm.g1) ?_
  rintro e w1 ⟨v1, rfl, p1⟩
  have y1 : B ≤ w1.heap.size := by have := p1.g.size; simp at this; omega
  have f1 := Hid.mk' (p1.far hf.out (by simp))
  have s1 : w.heap.size < w1.heap.size := by have := p1.g.size; simp at this; omega
  have c1_1 : w1.cell? ⟨w.heap.size, 1, none⟩ = some (.int .i64 m.m) := p1.keep (by go_simp) hf.out
  have c1_2 : w1.cell? ⟨w.heap.size, 2, none⟩ = some (.int .i64 m.s) := p1.keep (by go_simp) hf.out
  have c1_3 : w1.cell? ⟨w.heap.size, 3, none⟩ = some (.int .i64 m.a) := p1.keep (by go_simp) hf.out
  have c1_4 : w1.cell? ⟨w.heap.size, 4, none⟩ = some (.int .i64 m.n) := p1.keep (by go_simp) hf.out
  go_wp2_with fail
  refine Calls.mono (putNumber_any B v1 (l ++ n2 m.g) m.m _ (p1.own) y1 (by simp only [List.length_append, n2_len]; omega) hm.m0 hm.m1) ?_
  rintro e w2 ⟨v2, rfl, p2⟩
  have y2 : B ≤ w2.heap.size := by have := p2.g.size; omega
  have f2 := Hid.mk' (p2.far f1.out s1)
  have s2 : w.heap.size < w2.heap.size := by have := p2.g.size; omega
  have c2_2 : w2.cell? ⟨w.heap.size, 2, none⟩ = some (.int .i64 m.s) := p2.keep (by go_simp) f1.out
  have c2_3 : w2.cell? ⟨w.heap.size, 3, none⟩ = some (.int .i64 m.a) := p2.keep (by go_simp) f1.out
  have c2_4 : w2.cell? ⟨w.heap.size, 4, none⟩ = some (.int .i64 m.n) := p2.keep (by go_simp) f1.out
  go_wp2_with fail
  refine Calls.mono (putNumber_any B v2 (l ++ n2 m.g ++ n2 m.m) m.s _ (p2.own) y2 (by simp only [List.length_append, n2_len]; omega) hm.s0 hm.s1) ?_
  rintro e w3 ⟨v3, rfl, p3⟩
  have y3 : B ≤ w3.heap.size := by have := p3.g.size; omega
  have f3 := Hid.mk' (p3.far f2.out s2)
  have s3 : w.heap.size < w3.heap.size := by have := p3.g.size; omega
  have c3_3 : w3.cell? ⟨w.heap.size, 3, none⟩ = some (.int .i64 m.a) := p3.keep (by go_simp) f2.out
  have c3_4 : w3.cell? ⟨w.heap.size, 4, none⟩ = some (.int .i64 m.n) := p3.keep (by go_simp) f2.out
  go_wp2_with fail
  refine Calls.mono (putNumber_any B v3 (l ++ n2 m.g ++ n2 m.m ++ n2 m.s) m.a _ (p3.own) y3 (by simp only [List.length_append, n2_len]; omega) hm.a0 hm.a1) ?_
  rintro e w4 ⟨v4, rfl, p4⟩
  have y4 : B ≤ w4.heap.size := by have := p4.g.size; omega
  have f4 := Hid.mk' (p4.far f3.out s3)
  have s4 : w.heap.size < w4.heap.size := by have := p4.g.size; omega
  have c4_4 : w4.cell? ⟨w.heap.size, 4, none⟩ = some (.int .i64 m.n) := p4.keep (by go_simp) f3.out
  go_wp2_with fail
  refine Calls.mono (putNumber_any B v4 (l ++ n2 m.g ++ n2 m.m ++ n2 m.s ++ n2 m.a) m.n _ (p4.own) y4 (by simp only [List.length_append, n2_len]; omega) hm.n0 hm.n1) ?_
  rintro e w5 ⟨v5, rfl, p5⟩
  have y5 : B ≤ w5.heap.size := by have := p5.g.size; omega
  go_wp2_with fail
  go_ret
  refine ⟨v5, rfl, ?_⟩
  have P := (((((p1.pre (World.grownBy_alloc _ _ _)).trans p2).trans p3).trans p4).trans p5)
  simp only [List.append_assoc] at P
  simpa only [eMk, List.append_assoc] using P

def eIts (is : List It) : List UInt8 := [u8 is.length] ++ is.flatMap eIt
def eEns (es : List En) : List UInt8 := [u8 es.length] ++ es.flatMap eEn
theorem eIts_len (is : List It) : (eIts is).length = 1 + 11 * is.length := by
  unfold eIts
  rw [List.length_append]
  have : (is.flatMap eIt).length = 11 * is.length := by
    induction is with
    | nil => rfl
    | cons i t ih => rw [List.flatMap_cons, List.length_append, ih, eIt_len, List.length_cons]; omega
  rw [this]; rfl
theorem eEns_len (es : List En) : (eEns es).length = 1 + 13 * es.length := by
  unfold eEns
  rw [List.length_append]
  have : (es.flatMap eEn).length = 13 * es.length := by
    induction es with
    | nil => rfl
    | cons i t ih => rw [List.flatMap_cons, List.length_append, ih, eEn_len, List.length_cons]; omega
  rw [this]; rfl
theorem take_snoc' {α : Type} (l : List α) (k : Nat) (h : k < l.length) : l.take (k + 1) = l.take k ++ [l[k]] := List.take_succ_eq_append_getElem h
theorem flat_take_it (is : List It) (k : Nat) (h : k < is.length) : (is.take (k + 1)).flatMap eIt = (is.take k).flatMap eIt ++ eIt is[k] := by
  rw [take_snoc' is k h, List.flatMap_append]; simp
theorem flat_take_en (is : List En) (k : Nat) (h : k < is.length) : (is.take (k + 1)).flatMap eEn = (is.take k).flatMap eEn ++ eEn is[k] := by
  rw [take_snoc' is k h, List.flatMap_append]; simp
theorem flat_it_len (is : List It) : (is.flatMap eIt).length = 11 * is.length := by
  have := eIts_len is; unfold eIts at this; rw [List.length_append] at this; simp at this; simp; omega
theorem flat_en_len (is : List En) : (is.flatMap eEn).length = 13 * is.length := by
  have := eEns_len is; unfold eEns at this; rw [List.length_append] at this; simp at this; simp; omega

end Go.Proofs.Ytammnaafdhhjaaa

/- Ytammnaafdhhjaaa: lists put behind a slice. -/
namespace Go.Proofs.Ytammnaafdhhjaaa
open Go.RowKit

set_option maxHeartbeats 2000000 in
theorem putItems_x (B : Nat) (v : Value) (l : List UInt8) (is : List It) (g off c : Nat) (w : World) (hown : Own B w v l) (hB : B ≤ w.heap.size) (hl : l.length ≤ 500000) (hn : is.length ≤ 16) (hpos : 0 < is.length)
    (hc : ∀ j u, (is.flatMap It.cells)[j]? = some u → w.cell? ⟨g, off + j, none⟩ = some u) (hg : v.ownBlock ≠ some g) (hok : ∀ i ∈ is, ItOk i) :
    Calls Try.prog 57 #[v, .slice (some ⟨g, off, none⟩) is.length c] w fun e w' => ∃ v', e = .returned v' ∧ Put B w w' v v' (l ++ eIts is) := by
  obtain ⟨n, hL⟩ : ∃ n, is.length = n := ⟨_, rfl⟩
  rw [hL] at hn hpos ⊢
  have HL : Hid (is.length = n) := hL
  clear hL
  have HC : Hid (∀ j u, (is.flatMap It.cells)[j]? = some u → w.cell? ⟨g, off + j, none⟩ = some u) := hc
  have HG : Hid (g < w.heap.size) := by
    have := hc 0 _ (by rw [show (0 : Nat) = 4 * 0 + 0 from rfl, flat_at4 is 0 0 (by rw [HL.out]; omega) (by omega)]; rfl)
    exact World.block_lt_of_cell? w _ this
  clear hc
  have HO : Hid (Own B w v l) := hown
  have HK := Hid.mk' hok
  have HV := Hid.mk' hg
  clear hown hok hg
  have hsf := run_store_float
  have hu : (n : Int) % 256 = (n : Int) := by omega
  have E : Hid (#[.int .u8 (n : Int)] = (([u8 is.length]).map by8).toArray) := by
    show _ = _
    simp only [List.map_cons, List.map_nil]
    rw [by8_u8 _ (by rw [HL.out]; omega) (by rw [HL.out]; omega), HL.out]
  go_enter Try.func57, Try.ntmps57
  go_wp2_with (at_builtin; refine wp_app8 rfl _ _ rfl B _ l rfl (HO.out.alloc _) ⟨w.heap.size, 0, none⟩ 1 1 [u8 is.length] rfl rfl ?c1 ?c2 ?c3 ?c4)
  case c1 => exact cells_u8 w [u8 is.length] _ rfl _ E.out
  case c2 => omega
  case c3 => simp; omega
  case c4 =>
  intro v1 w1 p1
  have P1 := p1.pre (World.grownBy_alloc _ _ _)
  clear p1 hu
  go_wp2_with fail
  go_loopw [0, 15] (fun b i wr => ∃ k : Nat, k ≤ n ∧ i = .int .i64 k ∧ Put B w wr v b (l ++ [u8 is.length] ++ (is.take k).flatMap eIt)) (fun _ i _ => n - (intOf i).toNat)
  case atStart => exact ⟨0, by omega, rfl, by simpa using P1⟩
  case round =>
    obtain ⟨k, hk, rfl, pk⟩ := hrel
    have PK := Hid.mk' pk
    clear pk
    by_cases hlt : k < n
    · have hkl : k < is.length := by rw [HL.out]; exact hlt
      have hz := PK.out.g.size
      have hF := Hid.mk' (flat_take_it is k hkl)
      have hLn : (l ++ [u8 is.length] ++ (is.take k).flatMap eIt).length ≤ 600000 := by
        rw [List.length_append, List.length_append, flat_it_len, List.length_take]; simp; omega
      obtain ⟨i, hi⟩ : ∃ i, is[k] = i := ⟨_, rfl⟩
      have HI := Hid.mk' (HK.out i (by rw [← hi]; exact List.getElem_mem hkl))
      have d : ∀ j (hj : j < 4) u, i.cells[j]? = some u → wr.cell? ⟨g, off + k * 4 + j, none⟩ = some u := fun j hj u hu => by
        have := HC.out (4 * k + j) u (by rw [flat_at4 is k j hkl hj, hi]; exact hu)
        rw [show off + (4 * k + j) = off + k * 4 + j by omega] at this
        exact PK.out.keep this HV.out
      have d0 := d 0 (by omega) _ rfl
      have d1 := d 1 (by omega) _ rfl
      have d2 := d 2 (by omega) _ rfl
      have d3 := d 3 (by omega) _ rfl
      clear d
      rw [hi] at hF
      clear hi
      rw [Nat.add_zero] at d0
      generalize hM : l ++ [u8 is.length] ++ (is.take k).flatMap eIt = M at *
      have HM := Hid.mk' hM
      clear hM
      have hBr : B ≤ wr.heap.size := by omega
      have hfr := Hid.mk' (PK.out.own.fresh (Nat.le_refl _))
      go_wp2_with fail
      refine Calls.mono (putThing_any B u0 M i _ (PK.out.own.alloc _) (by simp; omega) (by omega) HI.out) ?_
      rintro e w2 ⟨v2, rfl, p2⟩
      go_wp2_with fail
      refine ⟨⟨k + 1, by omega, by go_num, ?_⟩, by simp [intOf]; omega⟩
      rw [hF.out, ← List.append_assoc, HM.out]
      exact PK.out.trans (p2.pre (World.grownBy_alloc _ _ _))
    · have hkn : k = n := by omega
      go_wp2
      go_ret
      refine ⟨_, rfl, ?_⟩
      have := PK.out
      rw [List.take_of_length_le (by rw [HL.out]; omega)] at this
      rw [List.append_assoc] at this
      exact this

set_option maxHeartbeats 2000000 in
theorem putOutbox_x (B : Nat) (v : Value) (l : List UInt8) (is : List En) (g off c : Nat) (w : World) (hown : Own B w v l) (hB : B ≤ w.heap.size) (hl : l.length ≤ 500000) (hn : is.length ≤ 8) (hpos : 0 < is.length)
    (hc : ∀ j u, (is.flatMap En.cells)[j]? = some u → w.cell? ⟨g, off + j, none⟩ = some u) (hg : v.ownBlock ≠ some g) (hok : ∀ i ∈ is, EnOk i) :
    Calls Try.prog 58 #[v, .slice (some ⟨g, off, none⟩) is.length c] w fun e w' => ∃ v', e = .returned v' ∧ Put B w w' v v' (l ++ eEns is) := by
  obtain ⟨n, hL⟩ : ∃ n, is.length = n := ⟨_, rfl⟩
  rw [hL] at hn hpos ⊢
  have HL : Hid (is.length = n) := hL
  clear hL
  have HC : Hid (∀ j u, (is.flatMap En.cells)[j]? = some u → w.cell? ⟨g, off + j, none⟩ = some u) := hc
  have HG : Hid (g < w.heap.size) := by
    have := hc 0 _ (by rw [show (0 : Nat) = 5 * 0 + 0 from rfl, flat_at5 is 0 0 (by rw [HL.out]; omega) (by omega)]; rfl)
    exact World.block_lt_of_cell? w _ this
  clear hc
  have HO : Hid (Own B w v l) := hown
  have HK := Hid.mk' hok
  have HV := Hid.mk' hg
  clear hown hok hg
  have hsf := run_store_float
  have hu : (n : Int) % 256 = (n : Int) := by omega
  have E : Hid (#[.int .u8 (n : Int)] = (([u8 is.length]).map by8).toArray) := by
    show _ = _
    simp only [List.map_cons, List.map_nil]
    rw [by8_u8 _ (by rw [HL.out]; omega) (by rw [HL.out]; omega), HL.out]
  go_enter Try.func58, Try.ntmps58
  go_wp2_with (at_builtin; refine wp_app8 rfl _ _ rfl B _ l rfl (HO.out.alloc _) ⟨w.heap.size, 0, none⟩ 1 1 [u8 is.length] rfl rfl ?c1 ?c2 ?c3 ?c4)
  case c1 => exact cells_u8 w [u8 is.length] _ rfl _ E.out
  case c2 => omega
  case c3 => simp; omega
  case c4 =>
  intro v1 w1 p1
  have P1 := p1.pre (World.grownBy_alloc _ _ _)
  clear p1 hu
  go_wp2_with fail
  go_loopw [0, 15] (fun b i wr => ∃ k : Nat, k ≤ n ∧ i = .int .i64 k ∧ Put B w wr v b (l ++ [u8 is.length] ++ (is.take k).flatMap eEn)) (fun _ i _ => n - (intOf i).toNat)
  case atStart => exact ⟨0, by omega, rfl, by simpa using P1⟩
  case round =>
    obtain ⟨k, hk, rfl, pk⟩ := hrel
    have PK := Hid.mk' pk
    clear pk
    by_cases hlt : k < n
    · have hkl : k < is.length := by rw [HL.out]; exact hlt
      have hz := PK.out.g.size
      have hF := Hid.mk' (flat_take_en is k hkl)
      have hLn : (l ++ [u8 is.length] ++ (is.take k).flatMap eEn).length ≤ 600000 := by
        rw [List.length_append, List.length_append, flat_en_len, List.length_take]; simp; omega
      obtain ⟨i, hi⟩ : ∃ i, is[k] = i := ⟨_, rfl⟩
      have HI := Hid.mk' (HK.out i (by rw [← hi]; exact List.getElem_mem hkl))
      have d : ∀ j (hj : j < 5) u, i.cells[j]? = some u → wr.cell? ⟨g, off + k * 5 + j, none⟩ = some u := fun j hj u hu => by
        have := HC.out (5 * k + j) u (by rw [flat_at5 is k j hkl hj, hi]; exact hu)
        rw [show off + (5 * k + j) = off + k * 5 + j by omega] at this
        exact PK.out.keep this HV.out
      have d0 := d 0 (by omega) _ rfl
      have d1 := d 1 (by omega) _ rfl
      have d2 := d 2 (by omega) _ rfl
      have d3 := d 3 (by omega) _ rfl
      have d4 := d 4 (by omega) _ rfl
      clear d
      rw [hi] at hF
      clear hi
      rw [Nat.add_zero] at d0
      generalize hM : l ++ [u8 is.length] ++ (is.take k).flatMap eEn = M at *
      have HM := Hid.mk' hM
      clear hM
      have hBr : B ≤ wr.heap.size := by omega
      have hfr := Hid.mk' (PK.out.own.fresh (Nat.le_refl _))
      go_wp2_with fail
      refine Calls.mono (putNumber_any B u0 M i.sq _ (PK.out.own.alloc _) (by simp; omega) (by omega) HI.out.a HI.out.b) ?_
      rintro e w2 ⟨v2, rfl, p2⟩
      have c1 : w2.cell? ⟨wr.heap.size, 1, none⟩ = some (.int .i64 i.it.sh) := p2.keep (by go_simp) hfr.out
      have c2 : w2.cell? ⟨wr.heap.size, 2, none⟩ = some (.int .i64 i.it.nu) := p2.keep (by go_simp) hfr.out
      have c3 : w2.cell? ⟨wr.heap.size, 3, none⟩ = some (.float .f32 i.it.pl) := p2.keep (by go_simp) hfr.out
      have c4 : w2.cell? ⟨wr.heap.size, 4, none⟩ = some (.float .f32 i.it.sp) := p2.keep (by go_simp) hfr.out
      have z2 := p2.g.size
      simp at z2
      go_wp2_with fail
      refine Calls.mono (putThing_any B v2 (M ++ n2 i.sq) i.it _ p2.own (by omega) (by simp only [List.length_append, n2_len]; omega) HI.out.i) ?_
      rintro e w3 ⟨v3, rfl, p3⟩
      go_wp2_with fail
      refine ⟨⟨k + 1, by omega, by go_num, ?_⟩, by simp [intOf]; omega⟩
      rw [hF.out, ← List.append_assoc, HM.out]
      have P3 := PK.out.trans ((p2.pre (World.grownBy_alloc _ _ _)).trans p3)
      simpa only [eEn, List.append_assoc] using P3
    · have hkn : k = n := by omega
      go_wp2
      go_ret
      refine ⟨_, rfl, ?_⟩
      have := PK.out
      rw [List.take_of_length_le (by rw [HL.out]; omega)] at this
      rw [List.append_assoc] at this
      exact this

end Go.Proofs.Ytammnaafdhhjaaa
