/- Ytammnaafdhhjaaa: what Decode takes and refuses, in plain words. -/
import Derived.Test.YtammnaafdhhjaaaM1
namespace Go.Proofs.Ytammnaafdhhjaaa

theorem dec_enc (r : Rc) (hm : mayB r = true) (wf : WfR r) : dec (enc r) = r := dec_body r hm wf _
theorem decB_enc (r : Rc) (hm : mayB r = true) (wf : WfR r) : decB (enc r) = true := by
  unfold decB; rw [dec_enc r hm wf, hm]; simp
theorem n2_inj {a b : Int} (h0 : 0 ≤ a) (h1 : a ≤ 65535) (h2 : 0 ≤ b) (h3 : b ≤ 65535) (h : n2 a = n2 b) : a = b := by
  have := congrArg (fun l => b2 (l ++ [])) h
  rwa [b2_n2 _ _ h0 h1, b2_n2 _ _ h2 h3] at this
/-- What is taken: bytes, and behind them their sum. -/
theorem decB_form {l : List UInt8} (h : decB l = true) : mayB (dec l) = true ∧ l = body (dec l) ++ n2 (sumL (body (dec l))) := by
  simp only [decB, Bool.and_eq_true, beq_iff_eq] at h
  exact ⟨h.1, h.2.symm⟩
theorem sum_split {x y : List UInt8} {a b : Int} (h : x ++ n2 a = y ++ n2 b) : x = y ∧ n2 a = n2 b := by
  have hl : x.length = y.length := by have := congrArg List.length h; simp [n2_len] at this; exact this
  exact List.append_inj h hl
/-- NOTHING THAT IS LONGER. -/
theorem decB_long (r : Rc) (hm : mayB r = true) (wf : WfR r) (c : UInt8) : decB (enc r ++ [c]) = false := by
  cases h : decB (enc r ++ [c])
  · rfl
  · obtain ⟨_, hf⟩ := decB_form h
    have e : dec (enc r ++ [c]) = r := by unfold enc; rw [List.append_assoc]; exact dec_body r hm wf _
    rw [e] at hf
    have := congrArg List.length hf
    simp [enc] at this
/-- NOTHING THAT IS SHORTER: the part that tells the length is there all the same. -/
theorem decB_short (r : Rc) (hm : mayB r = true) (wf : WfR r) : decB ((enc r).take ((enc r).length - 1)) = false := by
  cases h : decB ((enc r).take ((enc r).length - 1))
  · rfl
  · obtain ⟨_, hf⟩ := decB_form h
    have e0 : (enc r).take ((enc r).length - 1) = body r ++ [u8 (sumL (body r) / 256)] := by
      unfold enc n2
      rw [List.take_append]
      simp
      exact List.take_of_length_le (by omega)
    have e : dec ((enc r).take ((enc r).length - 1)) = r := by rw [e0]; exact dec_body r hm wf _
    rw [e, e0] at hf
    have := congrArg List.length hf
    simp [n2_len] at this
/-- NOTHING WITH ONE BYTE THAT IS ANOTHER. -/
theorem decB_other (x y : List UInt8) (c d : UInt8) (hcd : c ≠ d) (hx : decB (x ++ c :: y) = true) : decB (x ++ d :: y) = false := by
  cases h : decB (x ++ d :: y)
  · rfl
  · obtain ⟨m1, f1⟩ := decB_form hx
    obtain ⟨m2, f2⟩ := decB_form h
    obtain ⟨p0, p1⟩ := sumL_bd (body (dec (x ++ c :: y)))
    obtain ⟨q0, q1⟩ := sumL_bd (body (dec (x ++ d :: y)))
    generalize body (dec (x ++ c :: y)) = A at *
    generalize body (dec (x ++ d :: y)) = B at *
    have hl : A.length = B.length := by
      have a := congrArg List.length f1; have b := congrArg List.length f2
      simp [n2_len] at a b; omega
    have key : ∀ (A B : List UInt8) (s t : Int), x ++ c :: y = A ++ n2 s → x ++ d :: y = B ++ n2 t → A.length = B.length → s = sumL A → t = sumL B → 0 ≤ s → s ≤ 65535 → 0 ≤ t → t ≤ 65535 → False := by
      intro A B s t f1 f2 hl hs ht hs0 hs1 ht0 ht1
      by_cases hlt : x.length < A.length
      · -- the byte lies ahead of the sum
        have ea : A = x ++ c :: y.take (A.length - x.length - 1) := by
          have := congrArg (List.take A.length) f1
          rw [List.take_left] at this
          refine this.symm.trans ?_
          rw [List.take_append, List.take_of_length_le (by omega : x.length ≤ A.length)]
          obtain ⟨m, hm⟩ : ∃ m, A.length - x.length = m + 1 := ⟨A.length - x.length - 1, by omega⟩
          rw [hm]; rfl
        have eb : B = x ++ d :: y.take (A.length - x.length - 1) := by
          have := congrArg (List.take B.length) f2
          rw [List.take_left] at this
          refine this.symm.trans ?_
          rw [← hl, List.take_append, List.take_of_length_le (by omega : x.length ≤ A.length)]
          obtain ⟨m, hm⟩ : ∃ m, A.length - x.length = m + 1 := ⟨A.length - x.length - 1, by omega⟩
          rw [hm]; rfl
        have et : n2 s = n2 t := by
          have a := congrArg (List.drop A.length) f1
          have b := congrArg (List.drop B.length) f2
          rw [List.drop_left] at a b
          rw [← a, ← b, ← hl, List.drop_append, List.drop_append]
          obtain ⟨m, hm⟩ : ∃ m, A.length - x.length = m + 1 := ⟨A.length - x.length - 1, by omega⟩
          rw [hm]; rfl
        have := n2_inj hs0 hs1 ht0 ht1 et
        rw [hs, ht, ea, eb] at this
        exact hcd (sum_other x _ c d this)
      · -- it lies in the sum: the bytes ahead are the same
        have ea : A = x.take A.length := by
          have := congrArg (List.take A.length) f1
          rw [List.take_left, List.take_append_of_le_length (by omega)] at this
          exact this.symm
        have eb : B = x.take A.length := by
          have := congrArg (List.take B.length) f2
          rw [List.take_left, List.take_append_of_le_length (by omega)] at this
          rw [hl]; exact this.symm
        have hAB : A = B := ea.trans eb.symm
        subst hAB
        have hst : s = t := hs.trans ht.symm
        subst hst
        have := f1.trans f2.symm
        have := List.append_cancel_left this
        injection this with h1 _
        exact hcd h1
    exact (key A B _ _ f1 f2 hl rfl rfl p0 (by omega) q0 (by omega)).elim
end Go.Proofs.Ytammnaafdhhjaaa
