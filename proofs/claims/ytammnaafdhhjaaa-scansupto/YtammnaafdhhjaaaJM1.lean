import Derived.Test.YtammnaafdhhjaaaD1
/- Ytammnaafdhhjaaa: the plain mathematics of the bytes: what is encoded is read back; one byte that is another is told. -/
namespace Go.Proofs.Ytammnaafdhhjaaa

theorem b1_cons (c : UInt8) (l : List UInt8) : b1 (c :: l) = (c.toNat : Int) := rfl
theorem t1_cons (c : UInt8) (l : List UInt8) : t1 (c :: l) = l := rfl
theorem b2_n2 (n : Int) (l : List UInt8) (h0 : 0 ≤ n) (h1 : n ≤ 65535) : b2 (n2 n ++ l) = n := by
  show ((u8 (n / 256)).toNat : Int) * 256 + ((u8 (n % 256)).toNat : Int) = n
  rw [u8_toNat _ (by omega) (by omega), u8_toNat _ (by omega) (by omega)]; omega
theorem t2_n2 (n : Int) (l : List UInt8) : t2 (n2 n ++ l) = l := rfl
theorem b4_n4 (n : Nat) (l : List UInt8) (h : n < 4294967296) : b4 (n4 n ++ l) = n := by
  show ((((u8 ((n : Int) / 16777216)).toNat : Int) * 256 + ((u8 ((n : Int) / 65536 % 256)).toNat : Int)) * 65536 + (((u8 ((n : Int) / 256 % 256)).toNat : Int) * 256 + ((u8 ((n : Int) % 256)).toNat : Int))).toNat = n
  rw [u8_toNat _ (by omega) (by omega), u8_toNat _ (by omega) (by omega), u8_toNat _ (by omega) (by omega), u8_toNat _ (by omega) (by omega)]; omega
theorem t4_n4 (n : Nat) (l : List UInt8) : t4 (n4 n ++ l) = l := rfl
theorem b1_u8 (n : Int) (l : List UInt8) (h0 : 0 ≤ n) (h1 : n < 256) : b1 (u8 n :: l) = n := u8_toNat n h0 h1

theorem eIt_app (i : It) (l : List UInt8) : eIt i ++ l = u8 i.sh :: (n2 i.nu ++ (n4 i.pl ++ (n4 i.sp ++ l))) := by simp [eIt]
theorem pIt_eIt (i : It) (l : List UInt8) (h : ItOk i) : pIt (eIt i ++ l) = i := by
  rw [eIt_app]
  unfold pIt
  rw [b1_u8 _ _ h.a (by have := h.b; omega), t1_cons, b2_n2 _ _ h.c h.d, t2_n2, b4_n4 _ _ h.p, t4_n4, b4_n4 _ _ h.s]
theorem tIt_eIt (i : It) (l : List UInt8) : tIt (eIt i ++ l) = l := by
  rw [eIt_app]; unfold tIt; rw [t1_cons, t2_n2, t4_n4, t4_n4]
theorem pMk_eMk (m : Mk) (l : List UInt8) (h : MkOk m) : pMk (eMk m ++ l) = m := by
  have e : eMk m ++ l = n2 m.g ++ (n2 m.m ++ (n2 m.s ++ (n2 m.a ++ (n2 m.n ++ l)))) := by simp [eMk]
  rw [e]; unfold pMk
  rw [b2_n2 _ _ h.g0 h.g1, t2_n2, b2_n2 _ _ h.m0 h.m1, t2_n2, b2_n2 _ _ h.s0 h.s1, t2_n2, b2_n2 _ _ h.a0 h.a1, t2_n2, b2_n2 _ _ h.n0 h.n1]
theorem tMk_eMk (m : Mk) (l : List UInt8) : tMk (eMk m ++ l) = l := by
  have e : eMk m ++ l = n2 m.g ++ (n2 m.m ++ (n2 m.s ++ (n2 m.a ++ (n2 m.n ++ l)))) := by simp [eMk]
  rw [e]; unfold tMk; rw [t2_n2, t2_n2, t2_n2, t2_n2, t2_n2]
theorem pEn_eEn (i : En) (l : List UInt8) (h : EnOk i) : pEn (eEn i ++ l) = i := by
  have e : eEn i ++ l = n2 i.sq ++ (eIt i.it ++ l) := by simp [eEn]
  rw [e]; unfold pEn; rw [b2_n2 _ _ h.a h.b, t2_n2, pIt_eIt _ _ h.i]
theorem tEn_eEn (i : En) (l : List UInt8) : tEn (eEn i ++ l) = l := by
  have e : eEn i ++ l = n2 i.sq ++ (eIt i.it ++ l) := by simp [eEn]
  rw [e]; unfold tEn; rw [t2_n2, tIt_eIt]

/-- The list functions read from the front as well. -/
theorem tItN_succ (k : Nat) (l : List UInt8) : tItN (k + 1) l = tItN k (tIt l) := by
  induction k with
  | zero => rfl
  | succ k ih => show tIt (tItN (k + 1) l) = tIt (tItN k (tIt l)); rw [ih]
theorem pItN_succ (k : Nat) (l : List UInt8) : pItN (k + 1) l = pIt l :: pItN k (tIt l) := by
  induction k with
  | zero => rfl
  | succ k ih => show pItN (k + 1) l ++ [pIt (tItN (k + 1) l)] = pIt l :: (pItN k (tIt l) ++ [pIt (tItN k (tIt l))]); rw [ih, tItN_succ]; rfl
theorem tEnN_succ (k : Nat) (l : List UInt8) : tEnN (k + 1) l = tEnN k (tEn l) := by
  induction k with
  | zero => rfl
  | succ k ih => show tEn (tEnN (k + 1) l) = tEn (tEnN k (tEn l)); rw [ih]
theorem pEnN_succ (k : Nat) (l : List UInt8) : pEnN (k + 1) l = pEn l :: pEnN k (tEn l) := by
  induction k with
  | zero => rfl
  | succ k ih => show pEnN (k + 1) l ++ [pEn (tEnN (k + 1) l)] = pEn l :: (pEnN k (tEn l) ++ [pEn (tEnN k (tEn l))]); rw [ih, tEnN_succ]; rfl
theorem items_back (is : List It) (l : List UInt8) (h : ∀ i ∈ is, ItOk i) : pItN is.length (is.flatMap eIt ++ l) = is ∧ tItN is.length (is.flatMap eIt ++ l) = l := by
  induction is with
  | nil => exact ⟨rfl, rfl⟩
  | cons i t ih =>
    have := ih (fun x hx => h x (List.mem_cons_of_mem _ hx))
    rw [List.length_cons, List.flatMap_cons, List.append_assoc, pItN_succ, tItN_succ, pIt_eIt i _ (h i List.mem_cons_self), tIt_eIt, this.1, this.2]
    exact ⟨rfl, rfl⟩
theorem outs_back (is : List En) (l : List UInt8) (h : ∀ i ∈ is, EnOk i) : pEnN is.length (is.flatMap eEn ++ l) = is ∧ tEnN is.length (is.flatMap eEn ++ l) = l := by
  induction is with
  | nil => exact ⟨rfl, rfl⟩
  | cons i t ih =>
    have := ih (fun x hx => h x (List.mem_cons_of_mem _ hx))
    rw [List.length_cons, List.flatMap_cons, List.append_assoc, pEnN_succ, tEnN_succ, pEn_eEn i _ (h i List.mem_cons_self), tEn_eEn, this.1, this.2]
    exact ⟨rfl, rfl⟩

theorem noIt_eq {i : It} (h : noIt i = true) : i = it0 := by
  obtain ⟨a, b, c, d⟩ := i
  simp [noIt, stB] at h
  obtain ⟨⟨h1, h2⟩, h3, h4⟩ := h
  subst h1 h2 h3 h4; rfl
theorem nobB_eq {r : Rc} (h : nobB r = true) : r.mks = mk0 ∧ r.items = [] ∧ r.outs = [] := by
  obtain ⟨K, s, i, m, is, es⟩ := r
  obtain ⟨a, b, c, d, e⟩ := m
  simp [nobB, mkZ] at h
  obtain ⟨⟨⟨⟨⟨⟨h1, h2⟩, h3⟩, h4⟩, h5⟩, h6⟩, h7⟩ := h
  subst h1 h2 h3 h4 h5 h6 h7; exact ⟨rfl, rfl, rfl⟩

theorem may_kind {r : Rc} (hm : mayB r = true) : r.kind = 1 ∨ r.kind = 2 ∨ r.kind = 3 ∨ r.kind = 4 ∨ r.kind = 5 ∨ r.kind = 6 ∨ r.kind = 7 ∨ r.kind = 8 := by
  unfold mayB at hm
  by_cases h1 : r.kind = 1; · omega
  rw [if_neg h1] at hm
  by_cases h2 : r.kind = 2; · omega
  rw [if_neg h2] at hm
  by_cases h3 : r.kind = 3; · omega
  rw [if_neg h3] at hm
  by_cases h4 : r.kind = 4 ∨ r.kind = 7; · omega
  rw [if_neg h4] at hm
  by_cases h5 : r.kind = 5 ∨ r.kind = 8; · omega
  rw [if_neg h5] at hm
  by_cases h6 : r.kind = 6; · omega
  rw [if_neg h6] at hm
  cases hm

theorem pRc_1 (l : List UInt8) : pRc 1 l = ⟨1, 0, pIt l, mk0, [], []⟩ := by simp [pRc]
theorem pRc_2 (l : List UInt8) : pRc 2 l = ⟨2, 0, ⟨b1 l, b2 (t1 l), 0, 0⟩, mk0, [], []⟩ := by simp [pRc]
theorem pRc_3 (l : List UInt8) : pRc 3 l = ⟨3, 0, it0, mk0, [], []⟩ := by simp [pRc]
theorem pRc_4 (l : List UInt8) : pRc 4 l = ⟨4, b2 l, pIt (t2 l), mk0, [], []⟩ := by simp [pRc]
theorem pRc_7 (l : List UInt8) : pRc 7 l = ⟨7, b2 l, pIt (t2 l), mk0, [], []⟩ := by simp [pRc]
theorem pRc_5 (l : List UInt8) : pRc 5 l = ⟨5, b2 l, it0, mk0, [], []⟩ := by simp [pRc]
theorem pRc_8 (l : List UInt8) : pRc 8 l = ⟨8, b2 l, it0, mk0, [], []⟩ := by simp [pRc]
theorem pRc_6 (l : List UInt8) : pRc 6 l = ⟨6, 0, it0, pMk l, pItN (b1 (tMk l)).toNat (t1 (tMk l)), pEnN (b1 (tItN (b1 (tMk l)).toNat (t1 (tMk l)))).toNat (t1 (tItN (b1 (tMk l)).toNat (t1 (tMk l))))⟩ := by simp [pRc]

/-- WHAT IS ENCODED IS READ BACK, whatever stands behind it. -/
theorem dec_body (r : Rc) (hm : mayB r = true) (wf : WfR r) (l : List UInt8) : dec (body r ++ l) = r := by
  have hk := may_kind hm
  obtain ⟨K, s, i, m, is, es⟩ := r
  simp only at hk
  rcases hk with rfl | rfl | rfl | rfl | rfl | rfl | rfl | rfl
  · simp [mayB] at hm
    obtain ⟨⟨h1, h2⟩, h3⟩ := hm
    obtain ⟨e1, e2, e3⟩ := nobB_eq h3
    simp only at e1 e2 e3; subst h1 e1 e2 e3
    have e : body ⟨1, 0, i, mk0, [], []⟩ ++ l = u8 1 :: (eIt i ++ l) := by simp [body]
    rw [e]; unfold dec
    rw [b1_u8 _ _ (by omega) (by omega), t1_cons, pRc_1, pIt_eIt _ _ (itB_ok h2 wf.it)]
  · simp [mayB] at hm
    obtain ⟨⟨⟨h1, h2⟩, h2'⟩, h3⟩ := hm
    obtain ⟨e1, e2, e3⟩ := nobB_eq h3
    simp only at e1 e2 e3; subst h1 e1 e2 e3
    obtain ⟨g1, g2, g3, g4⟩ := idB_ok h2
    obtain ⟨a, b, c, d⟩ := i
    simp [stB] at h2'
    obtain ⟨rfl, rfl⟩ := h2'
    have e : body ⟨2, 0, ⟨a, b, 0, 0⟩, mk0, [], []⟩ ++ l = u8 2 :: u8 a :: (n2 b ++ l) := by simp [body]
    rw [e]; unfold dec
    rw [b1_u8 _ _ (by omega) (by omega), t1_cons, pRc_2, b1_u8 a _ g1 (by have : a ≤ 1 := g2; omega), t1_cons, b2_n2 b _ (by have : 1 ≤ b := g3; omega) g4]
  · simp [mayB] at hm
    obtain ⟨⟨h1, h2⟩, h3⟩ := hm
    obtain ⟨e1, e2, e3⟩ := nobB_eq h3
    simp only at e1 e2 e3; subst h1 e1 e2 e3
    rw [noIt_eq h2]
    have e : body ⟨3, 0, it0, mk0, [], []⟩ ++ l = u8 3 :: l := by simp [body]
    rw [e]; unfold dec
    rw [b1_u8 _ _ (by omega) (by omega), t1_cons, pRc_3]
  · simp [mayB] at hm
    obtain ⟨⟨⟨_, h1⟩, h2⟩, h3⟩ := hm
    obtain ⟨e1, e2, e3⟩ := nobB_eq h3
    simp only at e1 e2 e3; subst e1 e2 e3
    obtain ⟨g1, g2⟩ := isN_iff h1
    have e : body ⟨4, s, i, mk0, [], []⟩ ++ l = u8 4 :: (n2 s ++ (eIt i ++ l)) := by simp [body]
    rw [e]; unfold dec
    rw [b1_u8 _ _ (by omega) (by omega), t1_cons, pRc_4, b2_n2 _ _ g1 g2, t2_n2, pIt_eIt _ _ (itB_ok h2 wf.it)]
  · simp [mayB] at hm
    obtain ⟨⟨h1, h2⟩, h3⟩ := hm
    obtain ⟨e1, e2, e3⟩ := nobB_eq h3
    simp only at e1 e2 e3; subst e1 e2 e3
    obtain ⟨g1, g2⟩ := isN_iff h1
    rw [noIt_eq h2]
    have e : body ⟨5, s, it0, mk0, [], []⟩ ++ l = u8 5 :: (n2 s ++ l) := by simp [body]
    rw [e]; unfold dec
    rw [b1_u8 _ _ (by omega) (by omega), t1_cons, pRc_5, b2_n2 _ _ g1 g2]
  · simp [mayB, baseB, itemsB, outsB] at hm
    obtain ⟨⟨h1, h2⟩, ⟨hmk, hl, hc⟩, hl', hc'⟩ := hm
    subst h1
    rw [noIt_eq h2]
    have hI : ∀ x ∈ is, ItOk x := fun x hx => itB_ok (chk_ok hc x hx) (wf.items x hx)
    have hE : ∀ x ∈ es, EnOk x := fun x hx => ⟨(isN_iff (chkE_ok hc' x hx).1).1, (isN_iff (chkE_ok hc' x hx).1).2, itB_ok (chkE_ok hc' x hx).2 (wf.outs x hx)⟩
    have e : body ⟨6, 0, it0, m, is, es⟩ ++ l = u8 6 :: (eMk m ++ (u8 is.length :: (is.flatMap eIt ++ (u8 es.length :: (es.flatMap eEn ++ l))))) := by simp [body, eIts, eEns]
    have i1 := items_back is (u8 es.length :: (es.flatMap eEn ++ l)) hI
    have o1 := outs_back es l hE
    rw [e]; unfold dec
    rw [b1_u8 _ _ (by omega) (by omega), t1_cons, pRc_6, pMk_eMk _ _ (mkB_ok hmk), tMk_eMk, b1_u8 _ _ (by omega) (by omega), t1_cons, Int.toNat_natCast, i1.1, i1.2, b1_u8 _ _ (by omega) (by omega), t1_cons, Int.toNat_natCast, o1.1]
  · simp [mayB] at hm
    obtain ⟨⟨⟨_, h1⟩, h2⟩, h3⟩ := hm
    obtain ⟨e1, e2, e3⟩ := nobB_eq h3
    simp only at e1 e2 e3; subst e1 e2 e3
    obtain ⟨g1, g2⟩ := isN_iff h1
    have e : body ⟨7, s, i, mk0, [], []⟩ ++ l = u8 7 :: (n2 s ++ (eIt i ++ l)) := by simp [body]
    rw [e]; unfold dec
    rw [b1_u8 _ _ (by omega) (by omega), t1_cons, pRc_7, b2_n2 _ _ g1 g2, t2_n2, pIt_eIt _ _ (itB_ok h2 wf.it)]
  · simp [mayB] at hm
    obtain ⟨⟨h1, h2⟩, h3⟩ := hm
    obtain ⟨e1, e2, e3⟩ := nobB_eq h3
    simp only at e1 e2 e3; subst e1 e2 e3
    obtain ⟨g1, g2⟩ := isN_iff h1
    rw [noIt_eq h2]
    have e : body ⟨8, s, it0, mk0, [], []⟩ ++ l = u8 8 :: (n2 s ++ l) := by simp [body]
    rw [e]; unfold dec
    rw [b1_u8 _ _ (by omega) (by omega), t1_cons, pRc_8, b2_n2 _ _ g1 g2]

/-- The sum tells one byte that is another. -/
def stp (a : Int) (c : UInt8) : Int := (31 * a + (c.toNat : Int) + 1) % 65521
theorem stp_bd (a : Int) (c : UInt8) : 0 ≤ stp a c ∧ stp a c < 65521 := by unfold stp; omega
theorem sumL_eq (l : List UInt8) : sumL l = l.foldl stp 1 := rfl
theorem sum_step (a b : Int) (c : UInt8) (ha : 0 ≤ a) (ha' : a < 65521) (hb : 0 ≤ b) (hb' : b < 65521) (h : stp a c = stp b c) : a = b := by
  unfold stp at h
  have h1 : (31 * (a - b)) % 65521 = 0 := by omega
  obtain ⟨j, hj⟩ := Int.dvd_of_emod_eq_zero h1
  have h2 : a - b = 65521 * (25363 * j - 12 * (a - b)) := by omega
  generalize 25363 * j - 12 * (a - b) = z at h2
  omega
theorem sumL_app (l m : List UInt8) : sumL (l ++ m) = m.foldl stp (sumL l) := by rw [sumL_eq, sumL_eq, List.foldl_append]
theorem fold_inj (m : List UInt8) (a b : Int) (ha : 0 ≤ a) (ha' : a < 65521) (hb : 0 ≤ b) (hb' : b < 65521) (h : m.foldl stp a = m.foldl stp b) : a = b := by
  induction m generalizing a b with
  | nil => exact h
  | cons c t ih => exact sum_step a b c ha ha' hb hb' (ih _ _ (stp_bd _ _).1 (stp_bd _ _).2 (stp_bd _ _).1 (stp_bd _ _).2 h)
theorem sum_other (x y : List UInt8) (c d : UInt8) (h : sumL (x ++ c :: y) = sumL (x ++ d :: y)) : c = d := by
  rw [sumL_app, sumL_app] at h
  obtain ⟨h0, h1⟩ := sumL_bd x
  have h2 : stp (sumL x) c = stp (sumL x) d := fold_inj y _ _ (stp_bd _ _).1 (stp_bd _ _).2 (stp_bd _ _).1 (stp_bd _ _).2 h
  unfold stp at h2
  have hc := c.toNat_lt
  have hd := d.toNat_lt
  have e : c.toNat = d.toNat := by omega
  exact UInt8.toNat_inj.1 e
end Go.Proofs.Ytammnaafdhhjaaa

/- Ytammnaafdhhjaaa: what Decode takes and refuses, in plain words. -/
namespace Go.Proofs.Ytammnaafdhhjaaa

theorem dec_enc (r : Rc) (hm : mayB r = true) (wf : WfR r) : dec (enc r) = r := dec_body r hm wf _
theorem decB_enc (r : Rc) (hm : mayB r = true) (wf : WfR r) : decB (enc r) = true := by
  unfold decB; rw [dec_enc r hm wf, hm]; simp
theorem n2_inj {a b : Int} (h0 : 0 ≤ a) (h1 : a ≤ 65535) (h2 : 0 ≤ b) (h3 : b ≤ 65535) (h : n2 a = n2 b) : a = b := by
  have := congrArg (fun l => b2 (l ++ [])) h
  rwa [b2_n2 _ _ h0 h1, b2_n2 _ _ h2 h3] at this
/-- What is taken: bytes, and behind them their sum. -/
theorem decB_form {l : List UInt8} (h : decB l = true) : mayB (dec l) = true ∧ l = body (dec l) ++ n2 (sumL (body (dec l))) := by
  simp only [decB, Bool.and_eq_true, beq_iff_eq] at h
  exact ⟨h.1, h.2.symm⟩
theorem sum_split {x y : List UInt8} {a b : Int} (h : x ++ n2 a = y ++ n2 b) : x = y ∧ n2 a = n2 b := by
  have hl : x.length = y.length := by have := congrArg List.length h; simp [n2_len] at this; exact this
  exact List.append_inj h hl
/-- NOTHING THAT IS LONGER. -/
theorem decB_long (r : Rc) (hm : mayB r = true) (wf : WfR r) (c : UInt8) : decB (enc r ++ [c]) = false := by
  cases h : decB (enc r ++ [c])
  · rfl
  · obtain ⟨_, hf⟩ := decB_form h
    have e : dec (enc r ++ [c]) = r := by unfold enc; rw [List.append_assoc]; exact dec_body r hm wf _
    rw [e] at hf
    have := congrArg List.length hf
    simp [enc] at this
/-- NOTHING THAT IS SHORTER: the part that tells the length is there all the same. -/
theorem decB_short (r : Rc) (hm : mayB r = true) (wf : WfR r) : decB ((enc r).take ((enc r).length - 1)) = false := by
  cases h : decB ((enc r).take ((enc r).length - 1))
  · rfl
  · obtain ⟨_, hf⟩ := decB_form h
    have e0 : (enc r).take ((enc r).length - 1) = body r ++ [u8 (sumL (body r) / 256)] := by
      unfold enc n2
      rw [List.take_append]
      simp
      exact List.take_of_length_le (by omega)
    have e : dec ((enc r).take ((enc r).length - 1)) = r := by rw [e0]; exact dec_body r hm wf _
    rw [e, e0] at hf
    have := congrArg List.length hf
    simp [n2_len] at this
/-- NOTHING WITH ONE BYTE THAT IS ANOTHER. -/
theorem decB_other (x y : List UInt8) (c d : UInt8) (hcd : c ≠ d) (hx : decB (x ++ c :: y) = true) : decB (x ++ d :: y) = false := by
  cases h : decB (x ++ d :: y)
  · rfl
  · obtain ⟨m1, f1⟩ := decB_form hx
    obtain ⟨m2, f2⟩ := decB_form h
    obtain ⟨p0, p1⟩ := sumL_bd (body (dec (x ++ c :: y)))
    obtain ⟨q0, q1⟩ := sumL_bd (body (dec (x ++ d :: y)))
    generalize body (dec (x ++ c :: y)) = A at *
    generalize body (dec (x ++ d :: y)) = B at *
    have hl : A.length = B.length := by
      have a := congrArg List.length f1; have b := congrArg List.length f2
      simp [n2_len] at a b; omega
    have key : ∀ (A B : List UInt8) (s t : Int), x ++ c :: y = A ++ n2 s → x ++ d :: y = B ++ n2 t → A.length = B.length → s = sumL A → t = sumL B → 0 ≤ s → s ≤ 65535 → 0 ≤ t → t ≤ 65535 → False := by
      intro A B s t f1 f2 hl hs ht hs0 hs1 ht0 ht1
      by_cases hlt : x.length < A.length
      · -- the byte lies ahead of the sum
        have ea : A = x ++ c :: y.take (A.length - x.length - 1) := by
          have := congrArg (List.take A.length) f1
          rw [List.take_left] at this
          refine this.symm.trans ?_
          rw [List.take_append, List.take_of_length_le (by omega : x.length ≤ A.length)]
          obtain ⟨m, hm⟩ : ∃ m, A.length - x.length = m + 1 := ⟨A.length - x.length - 1, by omega⟩
          rw [hm]; rfl
        have eb : B = x ++ d :: y.take (A.length - x.length - 1) := by
          have := congrArg (List.take B.length) f2
          rw [List.take_left] at this
          refine this.symm.trans ?_
          rw [← hl, List.take_append, List.take_of_length_le (by omega : x.length ≤ A.length)]
          obtain ⟨m, hm⟩ : ∃ m, A.length - x.length = m + 1 := ⟨A.length - x.length - 1, by omega⟩
          rw [hm]; rfl
        have et : n2 s = n2 t := by
          have a := congrArg (List.drop A.length) f1
          have b := congrArg (List.drop B.length) f2
          rw [List.drop_left] at a b
          rw [← a, ← b, ← hl, List.drop_append, List.drop_append]
          obtain ⟨m, hm⟩ : ∃ m, A.length - x.length = m + 1 := ⟨A.length - x.length - 1, by omega⟩
          rw [hm]; rfl
        have := n2_inj hs0 hs1 ht0 ht1 et
        rw [hs, ht, ea, eb] at this
        exact hcd (sum_other x _ c d this)
      · -- it lies in the sum: the bytes ahead are the same
        have ea : A = x.take A.length := by
          have := congrArg (List.take A.length) f1
          rw [List.take_left, List.take_append_of_le_length (by omega)] at this
          exact this.symm
        have eb : B = x.take A.length := by
          have := congrArg (List.take B.length) f2
          rw [List.take_left, List.take_append_of_le_length (by omega)] at this
          rw [hl]; exact this.symm
        have hAB : A = B := ea.trans eb.symm
        subst hAB
        have hst : s = t := hs.trans ht.symm
        subst hst
        have := f1.trans f2.symm
        have := List.append_cancel_left this
        injection this with h1 _
        exact hcd h1
    exact (key A B _ _ f1 f2 hl rfl rfl p0 (by omega) q0 (by omega)).elim
end Go.Proofs.Ytammnaafdhhjaaa
