import Derived.Test.YtammnaafdhhjaaaD1
import Derived.OwnWalk
import Derived.Laws.CopyRow
import Derived.Laws.OwnMore
/- Ytammnaafdhhjaaa: lists that are lent. -/
namespace Go.Proofs.Ytammnaafdhhjaaa
open Go.RowKit

theorem run_copy_wide {P : Program} (w : World) (dT sT ty elem : TypeId) (g dLen dCap : Nat) (a : Addr) (sLen sCap sz : Nat) (cur : Array Value) (t : TypeId) (cs : List Value)
    (hu : P.underlying dT = some (.slice elem)) (hs : (P.info? elem).map (·.size) = some sz)
    (hg : w.heap[g]? = some (.cells cur t (0, 0))) (hmin : Nat.min sLen dLen = sLen) (hn : cs.length = sLen * sz)
    (hsrc : ∀ j v, cs[j]? = some v → w.cell? (a.add j) = some v) (hfit : cs.length ≤ cur.size) (h1 : ∀ v ∈ cs, v.oneCell' = true) :
    (Builtin.copy_ #[dT, sT] ty #[.slice (some ⟨g, 0, none⟩) dLen dCap, .slice (some a) sLen sCap]).run P w =
      .ok (goInt sLen) (w.setRow g (cs ++ cur.toList.drop cs.length).toArray) := by
  have hl := run_loadCells_list (P := P) w a cs hsrc
  have hst := run_storeCells_at P g 0 t cs 0 cur w hg (by simpa using hfit) h1
  simp only [Nat.zero_add, List.take_zero, List.nil_append] at hst
  cases hq : P.info? elem with
  | none => simp [hq] at hs
  | some i =>
    have hi : i.size = sz := by simpa [hq] using hs
    simp [Builtin.copy_, run_underlying hu, Builtin.lenOf, Builtin.firstCells, sizeOf, typeInfo, hq, hi, hmin, ← hn, hl, hst]
theorem run_copy_no {P : Program} (w : World) (dT sT ty elem : TypeId) (a : Addr) (dLen dCap c : Nat) (hu : P.underlying dT = some (.slice elem)) (hs : ((P.info? elem).map (·.size)).isSome = true) :
    (Builtin.copy_ #[dT, sT] ty #[.slice (some a) dLen dCap, .slice none 0 c]).run P w = .ok (goInt 0) w := by
  cases hq : P.info? elem with
  | none => simp [hq] at hs
  | some i => simp [Builtin.copy_, run_underlying hu, Builtin.lenOf, Builtin.firstCells, sizeOf, typeInfo, hq, storeCells]

/-- A copy onto a row of the call's own, from its head on: whatever lies there. -/
theorem wp_copy_lies {P : Program} {w : World} {ops : Array Oper} {rest : List Oper} {o : Oper} {a : Act} {Q : Exit → Act → World → Prop} (hgd : o.guard = none) (d s : Operand) (dT sT elem : TypeId)
    (ho : o.op = .call { callee := .builtin .copy, args := #[d, s], argTypes := #[dT, sT] }) (hu : P.underlying dT = some (.slice elem)) (sz : Nat) (hsz : (P.info? elem).map (·.size) = some sz)
    (B g N cap : Nat) (xs : List Value) (hd : a.eval d = .slice (some ⟨g, 0, none⟩) N cap) (hown : w.ownsRow B elem sz (.slice (some ⟨g, 0, none⟩) N cap) N xs)
    (v : Value) (n : Nat) (cs : List Value) (hs : a.eval s = v) (hl : Lies w v n cs) (hcs : cs.length = n * sz) (hnN : n ≤ N) (h1 : ∀ v ∈ cs, v.oneCell' = true)
    (h : ∀ w', w'.ownsRow B elem sz (.slice (some ⟨g, 0, none⟩) N cap) N (cs ++ xs.drop cs.length) → w.grownBy w' (some g) → wpList P ops Q rest (a.put o.dst (goInt n)) w') : wpList P ops Q (o :: rest) a w := by
  refine wpList_plain hgd fun K hK => ?_
  obtain ⟨ao, c, rfl, hx⟩ := hl
  by_cases hn0 : n = 0
  · subst hn0
    have hc0 : cs = [] := List.eq_nil_of_length_eq_zero (by omega)
    subst hc0
    have hk := h w (by simpa using hown) ⟨rfl, rfl, rfl, Nat.le_refl _, fun _ _ _ => rfl⟩
    have hrun : (Builtin.copy_ #[dT, sT] o.type #[.slice (some ⟨g, 0, none⟩) N cap, .slice ao 0 c]).run P w = .ok (goInt 0) w := by
      cases ao with
      | none => exact run_copy_no w dT sT o.type elem _ N cap c hu (by rw [hsz]; rfl)
      | some ad =>
        rcases hown.2 with ⟨h', _⟩ | ⟨g', cap', cur, h', hb, hg, hnc, hcm, hcs', htake⟩
        · simp at h'
        · simp only [Value.slice.injEq, Option.some.injEq, Addr.mk.injEq, and_true, true_and] at h'
          obtain ⟨rfl, rfl⟩ := h'
          have := run_copy_wide (P := P) w dT sT o.type elem g N cap ad 0 c sz cur elem [] hu hsz hg (by simp) (by simp) (by simp) (by simp) (by simp)
          rw [this]
          simp only [List.nil_append, List.length_nil, List.drop_zero, Array.toArray_toList]
          rw [setRow_self w g cur elem (0, 0) hg]
          rfl
    unfold Oper.wp
    simp [execOp, ho, resolve, invoke, builtin, hd, hs, hrun, Result.andThen]
    exact hK _ _ hk
  · obtain ⟨g', off, rfl, hc⟩ := hx (by omega)
    rcases hown.2 with ⟨h', _⟩ | ⟨g2, cap2, cur, h', hb, hg, hnc, hcm, hcs', htake⟩
    · simp at h'
    · simp only [Value.slice.injEq, Option.some.injEq, Addr.mk.injEq, and_true, true_and] at h'
      obtain ⟨rfl, rfl⟩ := h'
      have hle : cs.length ≤ xs.length := by rw [hcs, hown.1]; exact Nat.mul_le_mul_right _ hnN
      have hfit : cs.length ≤ cur.size := by
        rw [hcs, hcs']; exact Nat.mul_le_mul_right _ (by omega)
      have hrun := run_copy_wide (P := P) w dT sT o.type elem g N cap ⟨g', off, none⟩ n c sz cur elem cs hu hsz hg (Nat.min_eq_left hnN) hcs (fun j v hj => by
        have e : (⟨g', off, none⟩ : Addr).add j = ⟨g', off + j, none⟩ := by unfold Addr.add; split <;> simp_all
        rw [e]; exact hc j v hj) hfit h1
      have hk := h (w.setRow g (cs ++ cur.toList.drop cs.length).toArray) (by
        refine ⟨by rw [List.length_append, List.length_drop, hown.1]; have := hown.1; omega, .inr ⟨g, cap, _, rfl, hb, setRow_heap w g cur _ elem _ hg, hnc, hcm, ?_, ?_⟩⟩
        · simp only [List.size_toArray, List.length_append, List.length_drop, Array.length_toList]; omega
        · have hM : cs.length ≤ N * sz := by rw [hcs]; exact Nat.mul_le_mul_right _ hnN
          show List.take (N * sz) (cs ++ cur.toList.drop cs.length) = _
          rw [List.take_append, List.take_of_length_le hM, ← htake, List.drop_take])
        ⟨rfl, rfl, rfl, by simp, fun k _ hk => setRow_other w g k _ (fun e => hk (by rw [e]))⟩
      unfold Oper.wp
      simp [execOp, ho, resolve, invoke, builtin, hd, hs, hrun, Result.andThen]
      exact hK _ _ hk

def it77 : It := ⟨-77, 0, 0, 0⟩
theorem cells_one (is : List It) : ∀ u ∈ is.flatMap It.cells, u.oneCell' = true := by
  intro u hu
  obtain ⟨i, _, hi⟩ := List.mem_flatMap.1 hu
  simp [It.cells] at hi; rcases hi with rfl | rfl | rfl | rfl <;> rfl
theorem cells_len (is : List It) : (is.flatMap It.cells).length = is.length * 4 := by
  induction is with
  | nil => rfl
  | cons a t ih => rw [List.flatMap_cons, List.length_append, ih, List.length_cons]; simp [It.cells]; omega
theorem size4 : (Try.prog.info? 26).map (·.size) = some 4 := by kernel_rfl

theorem set4 (A ys : List Value) (a b c d y0 y1 y2 y3 : Value) (p : Nat) (hp : A.length = p) : ((((A ++ y0 :: y1 :: y2 :: y3 :: ys).set p a).set (p + 1) b).set (p + 2) c).set (p + 3) d = A ++ a :: b :: c :: d :: ys := by
  subst hp
  simp
theorem own_put4 {B : Nat} {e : TypeId} {g N cap p : Nat} {A ys : List Value} {y0 y1 y2 y3 : Value} {w : World} (h : w.ownsRow B e 4 (.slice (some ⟨g, 0, none⟩) N cap) N (A ++ y0 :: y1 :: y2 :: y3 :: ys)) (hp : A.length = p) (a b c d : Value) :
    ((((w.setCell ⟨g, p, none⟩ a).setCell ⟨g, p + 1, none⟩ b).setCell ⟨g, p + 2, none⟩ c).setCell ⟨g, p + 3, none⟩ d).ownsRow B e 4 (.slice (some ⟨g, 0, none⟩) N cap) N (A ++ a :: b :: c :: d :: ys) := by
  have := ((((h.stored p a).1.stored (p + 1) b).1.stored (p + 2) c).1.stored (p + 3) d).1
  rwa [set4 A ys a b c d y0 y1 y2 y3 p hp] at this
theorem four {ys : List Value} {m : Nat} (h : ys.length = 4 * (m + 1)) : ∃ y0 y1 y2 y3 zs, ys = y0 :: y1 :: y2 :: y3 :: zs ∧ zs.length = 4 * m := by
  match ys, h with
  | y0 :: y1 :: y2 :: y3 :: zs, h => exact ⟨y0, y1, y2, y3, zs, rfl, by simp at h; omega⟩
  | [], h => simp at h
  | [_], h => simp at h; omega
  | [_, _], h => simp at h; omega
  | [_, _, _], h => simp at h; omega
theorem rep_succ (is : List It) (k : Nat) (i : It) : (is ++ List.replicate (k + 1) i).flatMap It.cells = (is ++ List.replicate k i).flatMap It.cells ++ i.cells := by
  rw [List.replicate_succ', ← List.append_assoc, List.flatMap_append, List.flatMap_singleton]

set_option maxHeartbeats 2000000 in
set_option maxRecDepth 100000 in
theorem lentItems_any (vl : Value) (is : List It) (w : World) (h : LiesI w vl is) (hm : is.length ≤ 1048576) :
    Calls Try.prog 8 #[vl] w fun e w' => ∃ v, e = .returned v ∧ v = .slice (some ⟨w.heap.size, 0, none⟩) (is.length + 8) (is.length + 8) ∧ OwnI w.heap.size w' v (is ++ List.replicate 8 it77) ∧ w.grownBy w' none := by
  obtain ⟨a, c, rfl, hx⟩ := h
  have HL : Hid (Lies w (.slice a is.length c) is.length (is.flatMap It.cells)) := ⟨a, c, rfl, hx⟩
  clear hx
  have hcl := cells_len is
  obtain ⟨n, hn⟩ : ∃ n, is.length = n := ⟨_, rfl⟩
  rw [hn] at hm hcl HL ⊢
  have HN := Hid.mk' hn
  clear hn
  go_enter Try.func8, Try.ntmps8
  obtain ⟨i0, hi, hz0, hz1, hz2⟩ := infoItem
  go_wp2_with (first | (at_make; refine wpList_make_full _ rfl _ _ 29 rfl w.heap.size 26 i0 _ 4 Try.underlying29 hi hz0 hz1 .i64 .i64 _ _ (n + 8) rfl rfl (by omega) (by omega) (by rw [hz2]; omega) (by unfold maxLen; omega) (Nat.le_refl _) ?_; intro w1 o1 g1) | (refine wp_copy_lies rfl (.tmp 9) (.tmp 10) _ _ 26 rfl Try.underlying29 4 size4 w.heap.size w.heap.size (n + 8) (n + 8) _ rfl o1 (.slice a n c) n (is.flatMap It.cells) rfl (HL.out.grown g1) (by omega) (by omega) (cells_one is) ?_; intro w2 o2 g2))
  have G2 := Hid.mk' (grownBy_new g1 g2 (Nat.le_refl _))
  have l2 := o2.1
  obtain ⟨ys, hys⟩ : ∃ ys, List.drop (is.flatMap It.cells).length (madeCells (Value.cells (.agg #[.int .i64 0, .int .i64 0, .float .f32 0, .float .f32 0])) ((n + 8) * 4)).toList = ys := ⟨_, rfl⟩
  rw [hys] at o2 l2
  clear hys
  rw [List.length_append, hcl] at l2
  have O2 := Hid.mk' o2
  clear o2 o1 g1 g2
  go_loopw [4] (fun t wr => ∃ (k : Nat) (zs : List Value), k ≤ 8 ∧ t = .int .i64 ((n + k : Nat) : Int) ∧ w.grownBy wr none ∧ zs.length = 4 * (8 - k) ∧ wr.ownsRow w.heap.size 26 4 (.slice (some ⟨w.heap.size, 0, none⟩) (n + 8) (n + 8)) (n + 8) ((is ++ List.replicate k it77).flatMap It.cells ++ zs)) (fun t _ => n + 8 - (intOf t).toNat)
  case atStart => exact ⟨0, ys, by omega, by simp, G2.out, by omega, by simpa using O2.out⟩
  case round =>
    obtain ⟨k, zs, hk, rfl, gk, hzl, ok⟩ := hrel
    by_cases hlt : k < 8
    · obtain ⟨y0, y1, y2, y3, zs', rfl, hzs'⟩ := four (m := 8 - k - 1) (ys := zs) (by omega)
      have hAl : ((is ++ List.replicate k it77).flatMap It.cells).length = (n + k) * 4 := by rw [cells_len, List.length_append, HN.out, List.length_replicate]
      obtain ⟨p, hp⟩ : ∃ p, n + k = p := ⟨_, rfl⟩
      have hp8 : p + 1 ≤ n + 8 := by omega
      rw [hp] at hAl ⊢
      have c0 : wr.cell? ⟨w.heap.size, p * 4, none⟩ = some y0 := (ok.cellAt _ (by omega)).trans (by rw [List.getElem?_append_right (by omega), hAl]; simp)
      have c1 : wr.cell? ⟨w.heap.size, p * 4 + 1, none⟩ = some y1 := (ok.cellAt _ (by omega)).trans (by rw [List.getElem?_append_right (by omega), hAl]; simp)
      have c2 : wr.cell? ⟨w.heap.size, p * 4 + 2, none⟩ = some y2 := (ok.cellAt _ (by omega)).trans (by rw [List.getElem?_append_right (by omega), hAl]; simp)
      have c3 : wr.cell? ⟨w.heap.size, p * 4 + 3, none⟩ = some y3 := (ok.cellAt _ (by omega)).trans (by rw [List.getElem?_append_right (by omega), hAl]; simp)
      have f0 : ∀ j, wr.frozen? ⟨w.heap.size, j, none⟩ = false := fun j => ok.frozenAt j
      have OK := Hid.mk' ok
      clear ok
      have x0 : (0 : Int) ≤ (p : Int) := by omega
      have x1 : (p : Int) < ((n + 8 : Nat) : Int) := by omega
      have hsf := run_store_float
      go_wp2_with fail
      refine ⟨⟨k + 1, zs', by omega, ?_, grownBy_store (grownBy_store (grownBy_store (grownBy_store gk (Nat.le_refl _) _ _) (Nat.le_refl _) _ _) (Nat.le_refl _) _ _) (Nat.le_refl _) _ _, by omega, ?_⟩, ?_⟩
      · rw [show ((n + (k + 1) : Nat) : Int) = (p : Int) + 1 by omega]
      · rw [rep_succ, List.append_assoc]
        exact own_put4 OK.out hAl (.int .i64 (-77)) (.int .i64 0) (.float .f32 0) (.float .f32 0)
      · simp [intOf]; omega
    · have hk8 : k = 8 := by omega
      subst hk8
      have hz0 : zs = [] := List.eq_nil_of_length_eq_zero (by omega)
      subst hz0
      have OK := Hid.mk' ok
      clear ok
      go_wp2
      go_ret
      refine ⟨_, rfl, rfl, ?_, gk⟩
      have := OK.out
      unfold OwnI
      rw [List.length_append, HN.out, List.length_replicate]
      simpa using this
end Go.Proofs.Ytammnaafdhhjaaa

/- Ytammnaafdhhjaaa: lists of entries that are lent. -/
namespace Go.Proofs.Ytammnaafdhhjaaa
open Go.RowKit

def en77 : En := ⟨-77, ⟨0, 0, 0, 0⟩⟩
theorem cellsE_one (is : List En) : ∀ u ∈ is.flatMap En.cells, u.oneCell' = true := by
  intro u hu
  obtain ⟨i, _, hi⟩ := List.mem_flatMap.1 hu
  simp [En.cells] at hi; rcases hi with rfl | rfl | rfl | rfl | rfl <;> rfl
theorem cellsE_len (is : List En) : (is.flatMap En.cells).length = is.length * 5 := by
  induction is with
  | nil => rfl
  | cons a t ih => rw [List.flatMap_cons, List.length_append, ih, List.length_cons]; simp [En.cells]; omega
theorem size5 : (Try.prog.info? 62).map (·.size) = some 5 := by kernel_rfl

theorem set5 (A ys : List Value) (a b c d f y0 y1 y2 y3 y4 : Value) (p : Nat) (hp : A.length = p) : (((((A ++ y0 :: y1 :: y2 :: y3 :: y4 :: ys).set p a).set (p + 1) b).set (p + 2) c).set (p + 3) d).set (p + 4) f = A ++ a :: b :: c :: d :: f :: ys := by
  subst hp
  simp
theorem own_put5 {B : Nat} {e : TypeId} {g N cap p : Nat} {A ys : List Value} {y0 y1 y2 y3 y4 : Value} {w : World} (h : w.ownsRow B e 5 (.slice (some ⟨g, 0, none⟩) N cap) N (A ++ y0 :: y1 :: y2 :: y3 :: y4 :: ys)) (hp : A.length = p) (a b c d f : Value) :
    (((((w.setCell ⟨g, p, none⟩ a).setCell ⟨g, p + 1, none⟩ b).setCell ⟨g, p + 2, none⟩ c).setCell ⟨g, p + 3, none⟩ d).setCell ⟨g, p + 4, none⟩ f).ownsRow B e 5 (.slice (some ⟨g, 0, none⟩) N cap) N (A ++ a :: b :: c :: d :: f :: ys) := by
  have := (((((h.stored p a).1.stored (p + 1) b).1.stored (p + 2) c).1.stored (p + 3) d).1.stored (p + 4) f).1
  rwa [set5 A ys a b c d f y0 y1 y2 y3 y4 p hp] at this
theorem five {ys : List Value} {m : Nat} (h : ys.length = 5 * (m + 1)) : ∃ y0 y1 y2 y3 y4 zs, ys = y0 :: y1 :: y2 :: y3 :: y4 :: zs ∧ zs.length = 5 * m := by
  match ys, h with
  | y0 :: y1 :: y2 :: y3 :: y4 :: zs, h => exact ⟨y0, y1, y2, y3, y4, zs, rfl, by simp at h; omega⟩
  | [], h => simp at h
  | [_], h => simp at h; omega
  | [_, _], h => simp at h; omega
  | [_, _, _], h => simp at h; omega
  | [_, _, _, _], h => simp at h; omega
theorem repE_succ (is : List En) (k : Nat) (i : En) : (is ++ List.replicate (k + 1) i).flatMap En.cells = (is ++ List.replicate k i).flatMap En.cells ++ i.cells := by
  rw [List.replicate_succ', ← List.append_assoc, List.flatMap_append, List.flatMap_singleton]

set_option maxHeartbeats 2000000 in
set_option maxRecDepth 100000 in
theorem lentEntries_any (vl : Value) (is : List En) (w : World) (h : LiesE w vl is) (hm : is.length ≤ 1048576) :
    Calls Try.prog 9 #[vl] w fun e w' => ∃ v, e = .returned v ∧ v = .slice (some ⟨w.heap.size, 0, none⟩) (is.length + 8) (is.length + 8) ∧ OwnE w.heap.size w' v (is ++ List.replicate 8 en77) ∧ w.grownBy w' none := by
  obtain ⟨a, c, rfl, hx⟩ := h
  have HL : Hid (Lies w (.slice a is.length c) is.length (is.flatMap En.cells)) := ⟨a, c, rfl, hx⟩
  clear hx
  have hcl := cellsE_len is
  obtain ⟨n, hn⟩ : ∃ n, is.length = n := ⟨_, rfl⟩
  rw [hn] at hm hcl HL ⊢
  have HN := Hid.mk' hn
  clear hn
  go_enter Try.func9, Try.ntmps9
  obtain ⟨i0, hi, hz0, hz1, hz2⟩ := infoEntry
  go_wp2_with (first | (at_make; refine wpList_make_full _ rfl _ _ 30 rfl w.heap.size 62 i0 _ 5 Try.underlying30 hi hz0 hz1 .i64 .i64 _ _ (n + 8) rfl rfl (by omega) (by omega) (by rw [hz2]; omega) (by unfold maxLen; omega) (Nat.le_refl _) ?_; intro w1 o1 g1) | (refine wp_copy_lies rfl (.tmp 9) (.tmp 10) _ _ 62 rfl Try.underlying30 5 size5 w.heap.size w.heap.size (n + 8) (n + 8) _ rfl o1 (.slice a n c) n (is.flatMap En.cells) rfl (HL.out.grown g1) (by omega) (by omega) (cellsE_one is) ?_; intro w2 o2 g2))
  have G2 := Hid.mk' (grownBy_new g1 g2 (Nat.le_refl _))
  have l2 := o2.1
  obtain ⟨ys, hys⟩ : ∃ ys, List.drop (is.flatMap En.cells).length (madeCells (Value.cells (.agg #[.int .i64 0, .int .i64 0, .int .i64 0, .float .f32 0, .float .f32 0])) ((n + 8) * 5)).toList = ys := ⟨_, rfl⟩
  rw [hys] at o2 l2
  clear hys
  rw [List.length_append, hcl] at l2
  have O2 := Hid.mk' o2
  clear o2 o1 g1 g2
  go_loopw [4] (fun t wr => ∃ (k : Nat) (zs : List Value), k ≤ 8 ∧ t = .int .i64 ((n + k : Nat) : Int) ∧ w.grownBy wr none ∧ zs.length = 5 * (8 - k) ∧ wr.ownsRow w.heap.size 62 5 (.slice (some ⟨w.heap.size, 0, none⟩) (n + 8) (n + 8)) (n + 8) ((is ++ List.replicate k en77).flatMap En.cells ++ zs)) (fun t _ => n + 8 - (intOf t).toNat)
  case atStart => exact ⟨0, ys, by omega, by simp, G2.out, by omega, by simpa using O2.out⟩
  case round =>
    obtain ⟨k, zs, hk, rfl, gk, hzl, ok⟩ := hrel
    by_cases hlt : k < 8
    · obtain ⟨y0, y1, y2, y3, y4, zs', rfl, hzs'⟩ := five (m := 8 - k - 1) (ys := zs) (by omega)
      have hAl : ((is ++ List.replicate k en77).flatMap En.cells).length = (n + k) * 5 := by rw [cellsE_len, List.length_append, HN.out, List.length_replicate]
      obtain ⟨p, hp⟩ : ∃ p, n + k = p := ⟨_, rfl⟩
      have hp8 : p + 1 ≤ n + 8 := by omega
      rw [hp] at hAl ⊢
      have c0 : wr.cell? ⟨w.heap.size, p * 5, none⟩ = some y0 := (ok.cellAt _ (by omega)).trans (by rw [List.getElem?_append_right (by omega), hAl]; simp)
      have c1 : wr.cell? ⟨w.heap.size, p * 5 + 1, none⟩ = some y1 := (ok.cellAt _ (by omega)).trans (by rw [List.getElem?_append_right (by omega), hAl]; simp)
      have c2 : wr.cell? ⟨w.heap.size, p * 5 + 2, none⟩ = some y2 := (ok.cellAt _ (by omega)).trans (by rw [List.getElem?_append_right (by omega), hAl]; simp)
      have c3 : wr.cell? ⟨w.heap.size, p * 5 + 3, none⟩ = some y3 := (ok.cellAt _ (by omega)).trans (by rw [List.getElem?_append_right (by omega), hAl]; simp)
      have c4 : wr.cell? ⟨w.heap.size, p * 5 + 4, none⟩ = some y4 := (ok.cellAt _ (by omega)).trans (by rw [List.getElem?_append_right (by omega), hAl]; simp)
      have f0 : ∀ j, wr.frozen? ⟨w.heap.size, j, none⟩ = false := fun j => ok.frozenAt j
      have OK := Hid.mk' ok
      clear ok
      have x0 : (0 : Int) ≤ (p : Int) := by omega
      have x1 : (p : Int) < ((n + 8 : Nat) : Int) := by omega
      have hsf := run_store_float
      go_wp2_with fail
      refine ⟨⟨k + 1, zs', by omega, ?_, grownBy_store (grownBy_store (grownBy_store (grownBy_store (grownBy_store gk (Nat.le_refl _) _ _) (Nat.le_refl _) _ _) (Nat.le_refl _) _ _) (Nat.le_refl _) _ _) (Nat.le_refl _) _ _, by omega, ?_⟩, ?_⟩
      · rw [show ((n + (k + 1) : Nat) : Int) = (p : Int) + 1 by omega]
      · rw [repE_succ, List.append_assoc]
        exact own_put5 OK.out hAl (.int .i64 (-77)) (.int .i64 0) (.int .i64 0) (.float .f32 0) (.float .f32 0)
      · simp [intOf]; omega
    · have hk8 : k = 8 := by omega
      subst hk8
      have hz0 : zs = [] := List.eq_nil_of_length_eq_zero (by omega)
      subst hz0
      have OK := Hid.mk' ok
      clear ok
      go_wp2
      go_ret
      refine ⟨_, rfl, rfl, ?_, gk⟩
      have := OK.out
      unfold OwnE
      rw [List.length_append, HN.out, List.length_replicate]
      simpa using this
end Go.Proofs.Ytammnaafdhhjaaa
