/- Ytammnaafdhhjaaa: Sum, Encode. -/
import Derived.Test.YtammnaafdhhjaaaP4
import Derived.Test.YtammnaafdhhjaaaW9
namespace Go.Proofs.Ytammnaafdhhjaaa
open Go.RowKit

def sumL (l : List UInt8) : Int := l.foldl (fun a c => (31 * a + (c.toNat : Int) + 1) % 65521) 1
theorem sumL_snoc (l : List UInt8) (c : UInt8) : sumL (l ++ [c]) = (31 * sumL l + (c.toNat : Int) + 1) % 65521 := by simp [sumL]
theorem sumL_bd (l : List UInt8) : 0 ≤ sumL l ∧ sumL l < 65521 := by
  rcases List.eq_nil_or_concat l with rfl | ⟨t, c, rfl⟩
  · simp [sumL]
  · rw [List.concat_eq_append, sumL_snoc]; omega

set_option maxHeartbeats 400000 in
theorem sum_any (l : List UInt8) (w : World) (hl : l.length ≤ maxLen) :
    Calls Try.prog 6 #[.string (S l)] w fun e w' => e = .returned (.int .i64 (sumL l)) ∧ w' = w := by
  unfold maxLen at hl
  have hz : Hid ((S l).size = l.length) := S_size l
  obtain ⟨n, hn⟩ : ∃ n, (S l).size = n := ⟨_, rfl⟩
  have HN := Hid.mk' hn
  have hnl : Hid (n = l.length) := by show n = l.length; rw [← hn]; exact S_size l
  have hnm : n ≤ 9223372036854775807 := by rw [hnl.out]; omega
  clear hn
  go_enter Try.func6, Try.ntmps6
  go_wp2
  rw [HN.out]
  go_loop [3, 7] (fun t i => ∃ k : Nat, k ≤ n ∧ i = .int .i64 k ∧ t = .int .i64 (sumL (l.take k))) (fun _ i => n - (intOf i).toNat)
  case atStart => exact ⟨0, Nat.zero_le _, rfl, rfl⟩
  case round =>
    obtain ⟨k, hk, rfl, rfl⟩ := hrel
    obtain ⟨hd0, hd1⟩ := sumL_bd (l.take k)
    by_cases hlt : k < n
    · have hkl : k < l.length := by rw [← hnl.out]; exact hlt
      have hks : k < (S l).size := by rw [HN.out]; exact hlt
      have hts : Hid (l.take (k + 1) = l.take k ++ [(S l)[k]]) := by
        show _ = _
        rw [take_snoc' l k hkl]; rfl
      generalize hA : sumL (l.take k) = A at *
      have HA := Hid.mk' hA
      clear hA
      have hc := (S l)[k].toNat_lt
      go_wp2
      go_round
      case rel => exact ⟨k + 1, by omega, by go_num, by rw [hts.out, sumL_snoc, HA.out]⟩
      case measure => simp [intOf]; omega
    · go_wp2
      go_ret
      exact ⟨ret_int (by rw [List.take_of_length_le (by rw [← hnl.out]; omega)]), rfl⟩

structure WfIt (i : It) : Prop where
  p : i.pl < 4294967296
  s : i.sp < 4294967296
structure WfR (r : Rc) : Prop where
  it : WfIt r.it
  items : ∀ i ∈ r.items, WfIt i
  outs : ∀ e ∈ r.outs, WfIt e.it
theorem isN_iff {n : Int} (h : isN n = true) : 0 ≤ n ∧ n ≤ 65535 := by simpa [isN] using h
theorem idB_ok {s n : Int} (h : idB s n = true) : 0 ≤ s ∧ s ≤ 1 ∧ 1 ≤ n ∧ n ≤ 65535 := by
  simp [idB] at h; omega
theorem itB_ok {i : It} (h : itB i = true) (wf : WfIt i) : ItOk i := by
  simp only [itB, Bool.and_eq_true] at h
  obtain ⟨h1, h2, h3, h4⟩ := idB_ok h.1.1
  exact ⟨h1, by omega, by omega, h4, wf.p, wf.s⟩
theorem mkB_ok {m : Mk} (h : mkB m = true) : MkOk m := by
  simp only [mkB, Bool.and_eq_true] at h
  obtain ⟨⟨⟨⟨a, b⟩, c⟩, d⟩, e⟩ := h
  exact ⟨(isN_iff a).1, (isN_iff a).2, (isN_iff b).1, (isN_iff b).2, (isN_iff c).1, (isN_iff c).2, (isN_iff d).1, (isN_iff d).2, (isN_iff e).1, (isN_iff e).2⟩
theorem chk_ok {p : Option It} {is : List It} (h : chk p is = true) : ∀ i ∈ is, itB i = true := by
  induction is generalizing p with
  | nil => simp
  | cons a t ih =>
    simp only [chk, Bool.and_eq_true] at h
    intro i hi
    rcases List.mem_cons.1 hi with rfl | hi
    · exact h.1.1
    · exact ih h.2 i hi
theorem chkE_ok {l : Int} {es : List En} (h : chkE l es = true) : ∀ e ∈ es, isN e.sq = true ∧ itB e.it = true := by
  induction es generalizing l with
  | nil => simp
  | cons a t ih =>
    simp only [chkE, Bool.and_eq_true] at h
    intro e he
    rcases List.mem_cons.1 he with rfl | he
    · exact ⟨h.1.1.2, h.1.2⟩
    · exact ih h.2 e he

theorem putRec_any (r : Rc) (vi vo : Value) (w : World) (hi : LiesI w vi r.items) (ho : LiesE w vo r.outs) (hm : mayB r = true) (wf : WfR r) :
    Calls Try.prog 29 #[.slice none 0 0, rv r.kind r.seq r.it r.mks vi vo] w fun e w' => PutPost w (body r) e w' := by
  obtain ⟨K, s, i, m, is, es⟩ := r
  have hk : K = 1 ∨ K = 2 ∨ K = 3 ∨ K = 4 ∨ K = 5 ∨ K = 6 ∨ K = 7 ∨ K = 8 := by
    unfold mayB at hm
    simp only at hm
    by_cases h1 : K = 1; · omega
    rw [if_neg h1] at hm
    by_cases h2 : K = 2; · omega
    rw [if_neg h2] at hm
    by_cases h3 : K = 3; · omega
    rw [if_neg h3] at hm
    by_cases h4 : K = 4 ∨ K = 7; · omega
    rw [if_neg h4] at hm
    by_cases h5 : K = 5 ∨ K = 8; · omega
    rw [if_neg h5] at hm
    by_cases h6 : K = 6; · omega
    rw [if_neg h6] at hm
    cases hm
  rcases hk with rfl | rfl | rfl | rfl | rfl | rfl | rfl | rfl
  · simp [mayB] at hm
    exact putRec_1 s i m is es vi vo w hi ho (itB_ok hm.1.2 wf.it)
  · simp [mayB] at hm
    obtain ⟨h1, h2, h3, h4⟩ := idB_ok hm.1.1.2
    exact putRec_2 s i m is es vi vo w hi ho ⟨h1, by show i.sh ≤ 255; omega, by show 0 ≤ i.nu; omega, h4, wf.it.p, wf.it.s⟩
  · exact putRec_3 s i m is es vi vo w hi ho
  · simp [mayB] at hm
    obtain ⟨h1, h2⟩ := isN_iff hm.1.1.2
    exact putRec_4 s i m is es vi vo w hi ho h1 h2 (itB_ok hm.1.2 wf.it)
  · simp [mayB] at hm
    obtain ⟨h1, h2⟩ := isN_iff hm.1.1
    exact putRec_5 s i m is es vi vo w hi ho h1 h2
  · simp [mayB, baseB, itemsB, outsB] at hm
    obtain ⟨_, ⟨hmk, hl, hc⟩, hl', hc'⟩ := hm
    exact putRec_6 s i m is es vi vo w hi ho (mkB_ok hmk) hl (fun x hx => itB_ok (chk_ok hc x hx) (wf.items x hx)) hl' (fun x hx => ⟨(isN_iff (chkE_ok hc' x hx).1).1, (isN_iff (chkE_ok hc' x hx).1).2, itB_ok (chkE_ok hc' x hx).2 (wf.outs x hx)⟩)
  · simp [mayB] at hm
    obtain ⟨h1, h2⟩ := isN_iff hm.1.1.2
    exact putRec_7 s i m is es vi vo w hi ho h1 h2 (itB_ok hm.1.2 wf.it)
  · simp [mayB] at hm
    obtain ⟨h1, h2⟩ := isN_iff hm.1.1
    exact putRec_8 s i m is es vi vo w hi ho h1 h2
end Go.Proofs.Ytammnaafdhhjaaa
