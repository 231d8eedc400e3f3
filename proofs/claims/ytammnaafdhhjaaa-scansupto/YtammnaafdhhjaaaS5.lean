/- Ytammnaafdhhjaaa: two lists of records, the same. -/
import Derived.Test.YtammnaafdhhjaaaS3
import Derived.Deep.RegionLaw
namespace Go.Proofs.Ytammnaafdhhjaaa
open Go.RowKit

theorem flat_at13 (rs : List Rw) (k j : Nat) (hk : k < rs.length) (hj : j < 13) : (rs.flatMap Rw.cells)[13 * k + j]? = rs[k].cells[j]? := by
  induction rs generalizing k with
  | nil => simp at hk
  | cons a t ih =>
    rw [List.flatMap_cons]
    cases k with
    | zero => rw [List.getElem?_append_left (by simp [Rw.cells]; omega)]; simp
    | succ k =>
      rw [List.getElem?_append_right (by simp [Rw.cells]; omega)]
      have := ih k (by simp at hk; omega)
      simp only [List.getElem_cons_succ]
      rw [← this]
      congr 1
      simp [Rw.cells]
      omega

/-- Records whose floats equal themselves, with lists that are not long. -/
structure Calm (p : Rc) : Prop where
  ni : p.items.length ≤ 1000
  no : p.outs.length ≤ 1000
  fi : Fine p.it
  fI : ∀ x ∈ p.items, Fine x
  fE : ∀ x ∈ p.outs, Fine x.it

set_option maxHeartbeats 8000000 in
set_option maxRecDepth 100000 in
theorem sameRecords_x (rs qs : List Rw) (g off c g' off' c' : Nat) (w : World) (hpq : rs.map Rw.p = qs.map Rw.p) (hpos : 0 < rs.length) (hmx : rs.length ≤ 1000000000)
    (hF : ∀ r ∈ rs, Calm r.p) (hi : ∀ r ∈ rs, LiesI w r.vi r.p.items ∧ LiesE w r.vo r.p.outs) (ki : ∀ r ∈ qs, LiesI w r.vi r.p.items ∧ LiesE w r.vo r.p.outs)
    (hc : ∀ j u, (rs.flatMap Rw.cells)[j]? = some u → w.cell? ⟨g, off + j, none⟩ = some u) (hc' : ∀ j u, (qs.flatMap Rw.cells)[j]? = some u → w.cell? ⟨g', off' + j, none⟩ = some u) :
    Calls Try.prog 17 #[.slice (some ⟨g, off, none⟩) rs.length c, .slice (some ⟨g', off', none⟩) rs.length c'] w fun e w' => e = .returned (.bool true) ∧ w.grownBy w' none := by
  have hlq : qs.length = rs.length := by have := congrArg List.length hpq; simpa using this.symm
  obtain ⟨n, hL⟩ : ∃ n, rs.length = n := ⟨_, rfl⟩
  rw [hL] at hmx hpos hlq ⊢
  have HL : Hid (rs.length = n) := hL
  have HLQ : Hid (qs.length = n) := hlq
  clear hL hlq
  have HC := Hid.mk' hc
  have HC' := Hid.mk' hc'
  have HF := Hid.mk' hF
  have HI := Hid.mk' hi
  have KI := Hid.mk' ki
  have HP := Hid.mk' hpq
  clear hc hc' hF hi ki hpq
  have hnn : ((n : Int) != (n : Int)) = false := by simp
  go_enter Try.func17, Try.ntmps17
  go_wp2
  go_loopw [5] (fun i wr => ∃ k : Nat, k ≤ n ∧ i = .int .i64 k ∧ w.grownBy wr none) (fun i _ => n - (intOf i).toNat)
  case atStart => exact ⟨0, by omega, rfl, grownBy_refl _ _⟩
  case round =>
    obtain ⟨k, hk, rfl, gk⟩ := hrel
    by_cases hlt : k < n
    · have hkl : k < rs.length := by rw [HL.out]; exact hlt
      have hkq : k < qs.length := by rw [HLQ.out]; exact hlt
      obtain ⟨r, hr⟩ : ∃ r, rs[k] = r := ⟨_, rfl⟩
      obtain ⟨q, hq⟩ : ∃ q, qs[k] = q := ⟨_, rfl⟩
      have hpk : r.p = q.p := by
        have h1 : (rs.map Rw.p)[k]? = some r.p := by rw [List.getElem?_map, List.getElem?_eq_getElem hkl, hr]; rfl
        have h2 : (qs.map Rw.p)[k]? = some q.p := by rw [List.getElem?_map, List.getElem?_eq_getElem hkq, hq]; rfl
        rw [HP.out] at h1
        rw [h1] at h2
        injection h2
      have hrm : r ∈ rs := by rw [← hr]; exact List.getElem_mem hkl
      have hqm : q ∈ qs := by rw [← hq]; exact List.getElem_mem hkq
      have F := HF.out r hrm
      have HIr := HI.out r hrm
      have KIq := KI.out q hqm
      have d : ∀ j (hj : j < 13) u, r.cells[j]? = some u → wr.cell? ⟨g, off + k * 13 + j, none⟩ = some u := fun j hj u hu => by
        have := HC.out (13 * k + j) u (by rw [flat_at13 rs k j hkl hj, hr]; exact hu)
        rw [show off + (13 * k + j) = off + k * 13 + j by omega] at this
        exact gk.cell this (by simp)
      have d' : ∀ j (hj : j < 13) u, q.cells[j]? = some u → wr.cell? ⟨g', off' + k * 13 + j, none⟩ = some u := fun j hj u hu => by
        have := HC'.out (13 * k + j) u (by rw [flat_at13 qs k j hkq hj, hq]; exact hu)
        rw [show off' + (13 * k + j) = off' + k * 13 + j by omega] at this
        exact gk.cell this (by simp)
      obtain ⟨p, vi, vo⟩ := r
      obtain ⟨p', ui, uo⟩ := q
      have hpk' : p = p' := hpk
      subst hpk'
      obtain ⟨ai, ci, hvi, _⟩ := HIr.1
      obtain ⟨ao, co, hvo, _⟩ := HIr.2
      obtain ⟨bi, di, hui, _⟩ := KIq.1
      obtain ⟨bo, do', huo, _⟩ := KIq.2
      simp only at hvi hvo hui huo
      subst hvi hvo hui huo
      have F' : Calm p := F
      have d0 := d 0 (by omega) _ rfl
      have e0 := d' 0 (by omega) _ rfl
      have d1 := d 1 (by omega) _ rfl
      have e1 := d' 1 (by omega) _ rfl
      have d2 := d 2 (by omega) _ rfl
      have e2 := d' 2 (by omega) _ rfl
      have d3 := d 3 (by omega) _ rfl
      have e3 := d' 3 (by omega) _ rfl
      have d4 := d 4 (by omega) _ rfl
      have e4 := d' 4 (by omega) _ rfl
      have d5 := d 5 (by omega) _ rfl
      have e5 := d' 5 (by omega) _ rfl
      have d6 := d 6 (by omega) _ rfl
      have e6 := d' 6 (by omega) _ rfl
      have d7 := d 7 (by omega) _ rfl
      have e7 := d' 7 (by omega) _ rfl
      have d8 := d 8 (by omega) _ rfl
      have e8 := d' 8 (by omega) _ rfl
      have d9 := d 9 (by omega) _ rfl
      have e9 := d' 9 (by omega) _ rfl
      have d10 := d 10 (by omega) _ rfl
      have e10 := d' 10 (by omega) _ rfl
      have d11 := d 11 (by omega) _ rfl
      have e11 := d' 11 (by omega) _ rfl
      have d12 := d 12 (by omega) _ rfl
      have e12 := d' 12 (by omega) _ rfl
      have S9 := Hid.mk' (fun w9 (g9 : w.grownBy w9 none) => sameRecord_any p.kind p.seq p.it p.mks p.items p.outs _ _ _ _ w9 (HIr.1.grown g9) (HIr.2.grown g9) (KIq.1.grown g9) (KIq.2.grown g9) (by have := F'.ni; omega) (by have := F'.no; omega) F'.fi F'.fI F'.fE)
      clear d d' hr hq hpk hrm hqm F F' HIr KIq
      rw [Nat.add_zero] at d0 e0
      have y0 : (0 : Int) ≤ (k : Int) := by omega
      have y1 : (k : Int) < (n : Int) := by omega
      have GK := Hid.mk' gk
      clear gk
      go_wp2_with fail
      go_region_law (first | (go_simp; go_at_call 23; refine Calls.mono (S9.out _ (by first | exact GK.out | exact grownBy_drew GK.out)) ?_; rintro e w9 ⟨rfl, g9⟩))
      all_goals
        have G9 := Hid.mk' ((grownBy_drew GK.out).trans g9)
        clear g9
        go_wp2
        exact ⟨⟨k + 1, by omega, by go_num, G9.out⟩, by simp [intOf]; omega⟩
    · go_wp2
      go_ret
      exact ⟨rfl, gk⟩

set_option maxHeartbeats 400000 in
theorem sameRecords_any (va vb : Value) (B B' : Nat) (rs qs : List Rw) (w : World) (ha : Came B w va rs) (hb : Came B' w vb qs) (hpq : rs.map Rw.p = qs.map Rw.p) (hmx : rs.length ≤ 1000000000) (hF : ∀ r ∈ rs, Calm r.p) :
    Calls Try.prog 17 #[va, vb] w fun e w' => e = .returned (.bool true) ∧ w.grownBy w' none := by
  have hlq : qs.length = rs.length := by have := congrArg List.length hpq; simpa using this.symm
  obtain ⟨a, c, rfl, hx⟩ := Lies.of_own ha.row
  obtain ⟨a', c', rfl, hx'⟩ := Lies.of_own hb.row
  by_cases hp : 0 < rs.length
  · obtain ⟨g, off, rfl, hc⟩ := hx hp
    obtain ⟨g', off', rfl, hc'⟩ := hx' (by omega)
    rw [hlq]
    exact sameRecords_x rs qs g off c g' off' c' w hpq hp hmx hF (fun r hr => ⟨Lies.of_own (ha.oi r hr), Lies.of_own (ha.oo r hr)⟩) (fun r hr => ⟨Lies.of_own (hb.oi r hr), Lies.of_own (hb.oo r hr)⟩) hc hc'
  · have e0 : rs = [] := List.eq_nil_of_length_eq_zero (by omega)
    have e1 : qs = [] := List.eq_nil_of_length_eq_zero (by omega)
    subst e0 e1
    clear hx hx' hp hmx ha hb hF hpq hlq
    show Calls Try.prog 17 #[.slice a 0 c, .slice a' 0 c'] w _
    have hnn : ((0 : Int) != (0 : Int)) = false := by simp
    go_enter Try.func17, Try.ntmps17
    go_wp2
    refine wp_loop_rounds 1 ?_
    rw [rounds_succ]
    go_wp2
    go_ret
    exact ⟨rfl, grownBy_refl _ _⟩
end Go.Proofs.Ytammnaafdhhjaaa
