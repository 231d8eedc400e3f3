/- Ytammnaafdhhjaaa: things, marks and lists put behind a slice. -/
import Derived.Test.YtammnaafdhhjaaaP1
namespace Go.Proofs.Ytammnaafdhhjaaa
open Go.RowKit

def eIt (i : It) : List UInt8 := [u8 i.sh] ++ n2 i.nu ++ n4 i.pl ++ n4 i.sp
def eMk (m : Mk) : List UInt8 := n2 m.g ++ n2 m.m ++ n2 m.s ++ n2 m.a ++ n2 m.n
def eEn (e : En) : List UInt8 := n2 e.sq ++ eIt e.it
structure ItOk (i : It) : Prop where
  a : 0 ≤ i.sh
  b : i.sh ≤ 255
  c : 0 ≤ i.nu
  d : i.nu ≤ 65535
  p : i.pl < 4294967296
  s : i.sp < 4294967296
structure MkOk (m : Mk) : Prop where
  g0 : 0 ≤ m.g
  g1 : m.g ≤ 65535
  m0 : 0 ≤ m.m
  m1 : m.m ≤ 65535
  s0 : 0 ≤ m.s
  s1 : m.s ≤ 65535
  a0 : 0 ≤ m.a
  a1 : m.a ≤ 65535
  n0 : 0 ≤ m.n
  n1 : m.n ≤ 65535
structure EnOk (e : En) : Prop where
  a : 0 ≤ e.sq
  b : e.sq ≤ 65535
  i : ItOk e.it
theorem n2_len (n : Int) : (n2 n).length = 2 := rfl
theorem n4_len (n : Nat) : (n4 n).length = 4 := rfl
theorem eIt_len (i : It) : (eIt i).length = 11 := rfl
theorem eMk_len (m : Mk) : (eMk m).length = 10 := rfl
theorem eEn_len (e : En) : (eEn e).length = 13 := rfl

set_option maxHeartbeats 1000000 in
theorem putThing_any (B : Nat) (v : Value) (l : List UInt8) (i : It) (w : World) (hown : Own B w v l) (hB : B ≤ w.heap.size) (hl : l.length ≤ 700000) (hi : ItOk i) :
    Calls Try.prog 54 #[v, .agg #[.int .i64 i.sh, .int .i64 i.nu, .float .f32 i.pl, .float .f32 i.sp]] w fun e w' => ∃ v', e = .returned v' ∧ Put B w w' v v' (l ++ eIt i) := by
  have HO : Hid (Own B w v l) := hown
  clear hown
  have hf := Hid.mk' (HO.out.fresh (Nat.le_refl _))
  go_enter Try.func54, Try.ntmps54
  go_wp2_with fail
  refine Calls.mono (putID_any B v (l) i.sh i.nu _ (HO.out.alloc _) (by simp; omega) (by omega) hi.a hi.b hi.c hi.d) ?_
  rintro e w1 ⟨v1, rfl, p1⟩
  have y1 : B ≤ w1.heap.size := by have := p1.g.size; simp at this; omega
  have f1 := Hid.mk' (p1.far hf.out (by simp))
  have s1 : w.heap.size < w1.heap.size := by have := p1.g.size; simp at this; omega
  have c1_2 : w1.cell? ⟨w.heap.size, 2, none⟩ = some (.float .f32 i.pl) := p1.keep (by go_simp) hf.out
  have c1_3 : w1.cell? ⟨w.heap.size, 3, none⟩ = some (.float .f32 i.sp) := p1.keep (by go_simp) hf.out
  go_wp2_with fail
  refine Calls.mono (putFloat_any B v1 (l ++ [u8 i.sh] ++ n2 i.nu) i.pl _ (p1.own) y1 (by simp only [List.length_append, n2_len, List.length_cons, List.length_nil]; omega) hi.p) ?_
  rintro e w2 ⟨v2, rfl, p2⟩
  have y2 : B ≤ w2.heap.size := by have := p2.g.size; omega
  have f2 := Hid.mk' (p2.far f1.out s1)
  have s2 : w.heap.size < w2.heap.size := by have := p2.g.size; omega
  have c2_3 : w2.cell? ⟨w.heap.size, 3, none⟩ = some (.float .f32 i.sp) := p2.keep (by go_simp) f1.out
  go_wp2_with fail
  refine Calls.mono (putFloat_any B v2 (l ++ [u8 i.sh] ++ n2 i.nu ++ n4 i.pl) i.sp _ (p2.own) y2 (by simp only [List.length_append, n2_len, n4_len, List.length_cons, List.length_nil]; omega) hi.s) ?_
  rintro e w3 ⟨v3, rfl, p3⟩
  have y3 : B ≤ w3.heap.size := by have := p3.g.size; omega
  go_wp2_with fail
  go_ret
  refine ⟨v3, rfl, ?_⟩
  have P := (((p1.pre (World.grownBy_alloc _ _ _)).trans p2).trans p3)
  simp only [List.append_assoc] at P
  simpa only [eIt, List.append_assoc] using P

set_option maxHeartbeats 1000000 in
theorem putMarks_any (B : Nat) (v : Value) (l : List UInt8) (m : Mk) (w : World) (hown : Own B w v l) (hB : B ≤ w.heap.size) (hl : l.length ≤ 700000) (hm : MkOk m) :
    Calls Try.prog 56 #[v, .agg #[.int .i64 m.g, .int .i64 m.m, .int .i64 m.s, .int .i64 m.a, .int .i64 m.n]] w fun e w' => ∃ v', e = .returned v' ∧ Put B w w' v v' (l ++ eMk m) := by
  have HO : Hid (Own B w v l) := hown
  clear hown
  have hf := Hid.mk' (HO.out.fresh (Nat.le_refl _))
  go_enter Try.func56, Try.ntmps56
  go_wp2_with fail
  refine Calls.mono (putNumber_any B v (l) m.g _ (HO.out.alloc _) (by simp; omega) (by omega) hm.g0 hm.g1) ?_
  rintro e w1 ⟨v1, rfl, p1⟩
  have y1 : B ≤ w1.heap.size := by have := p1.g.size; simp at this; omega
  have f1 := Hid.mk' (p1.far hf.out (by simp))
  have s1 : w.heap.size < w1.heap.size := by have := p1.g.size; simp at this; omega
  have c1_1 : w1.cell? ⟨w.heap.size, 1, none⟩ = some (.int .i64 m.m) := p1.keep (by go_simp) hf.out
  have c1_2 : w1.cell? ⟨w.heap.size, 2, none⟩ = some (.int .i64 m.s) := p1.keep (by go_simp) hf.out
  have c1_3 : w1.cell? ⟨w.heap.size, 3, none⟩ = some (.int .i64 m.a) := p1.keep (by go_simp) hf.out
  have c1_4 : w1.cell? ⟨w.heap.size, 4, none⟩ = some (.int .i64 m.n) := p1.keep (by go_simp) hf.out
  go_wp2_with fail
  refine Calls.mono (putNumber_any B v1 (l ++ n2 m.g) m.m _ (p1.own) y1 (by simp only [List.length_append, n2_len]; omega) hm.m0 hm.m1) ?_
  rintro e w2 ⟨v2, rfl, p2⟩
  have y2 : B ≤ w2.heap.size := by have := p2.g.size; omega
  have f2 := Hid.mk' (p2.far f1.out s1)
  have s2 : w.heap.size < w2.heap.size := by have := p2.g.size; omega
  have c2_2 : w2.cell? ⟨w.heap.size, 2, none⟩ = some (.int .i64 m.s) := p2.keep (by go_simp) f1.out
  have c2_3 : w2.cell? ⟨w.heap.size, 3, none⟩ = some (.int .i64 m.a) := p2.keep (by go_simp) f1.out
  have c2_4 : w2.cell? ⟨w.heap.size, 4, none⟩ = some (.int .i64 m.n) := p2.keep (by go_simp) f1.out
  go_wp2_with fail
  refine Calls.mono (putNumber_any B v2 (l ++ n2 m.g ++ n2 m.m) m.s _ (p2.own) y2 (by simp only [List.length_append, n2_len]; omega) hm.s0 hm.s1) ?_
  rintro e w3 ⟨v3, rfl, p3⟩
  have y3 : B ≤ w3.heap.size := by have := p3.g.size; omega
  have f3 := Hid.mk' (p3.far f2.out s2)
  have s3 : w.heap.size < w3.heap.size := by have := p3.g.size; omega
  have c3_3 : w3.cell? ⟨w.heap.size, 3, none⟩ = some (.int .i64 m.a) := p3.keep (by go_simp) f2.out
  have c3_4 : w3.cell? ⟨w.heap.size, 4, none⟩ = some (.int .i64 m.n) := p3.keep (by go_simp) f2.out
  go_wp2_with fail
  refine Calls.mono (putNumber_any B v3 (l ++ n2 m.g ++ n2 m.m ++ n2 m.s) m.a _ (p3.own) y3 (by simp only [List.length_append, n2_len]; omega) hm.a0 hm.a1) ?_
  rintro e w4 ⟨v4, rfl, p4⟩
  have y4 : B ≤ w4.heap.size := by have := p4.g.size; omega
  have f4 := Hid.mk' (p4.far f3.out s3)
  have s4 : w.heap.size < w4.heap.size := by have := p4.g.size; omega
  have c4_4 : w4.cell? ⟨w.heap.size, 4, none⟩ = some (.int .i64 m.n) := p4.keep (by go_simp) f3.out
  go_wp2_with fail
  refine Calls.mono (putNumber_any B v4 (l ++ n2 m.g ++ n2 m.m ++ n2 m.s ++ n2 m.a) m.n _ (p4.own) y4 (by simp only [List.length_append, n2_len]; omega) hm.n0 hm.n1) ?_
  rintro e w5 ⟨v5, rfl, p5⟩
  have y5 : B ≤ w5.heap.size := by have := p5.g.size; omega
  go_wp2_with fail
  go_ret
  refine ⟨v5, rfl, ?_⟩
  have P := (((((p1.pre (World.grownBy_alloc _ _ _)).trans p2).trans p3).trans p4).trans p5)
  simp only [List.append_assoc] at P
  simpa only [eMk, List.append_assoc] using P

def eIts (is : List It) : List UInt8 := [u8 is.length] ++ is.flatMap eIt
def eEns (es : List En) : List UInt8 := [u8 es.length] ++ es.flatMap eEn
theorem eIts_len (is : List It) : (eIts is).length = 1 + 11 * is.length := by
  unfold eIts
  rw [List.length_append]
  have : (is.flatMap eIt).length = 11 * is.length := by
    induction is with
    | nil => rfl
    | cons i t ih => rw [List.flatMap_cons, List.length_append, ih, eIt_len, List.length_cons]; omega
  rw [this]; rfl
theorem eEns_len (es : List En) : (eEns es).length = 1 + 13 * es.length := by
  unfold eEns
  rw [List.length_append]
  have : (es.flatMap eEn).length = 13 * es.length := by
    induction es with
    | nil => rfl
    | cons i t ih => rw [List.flatMap_cons, List.length_append, ih, eEn_len, List.length_cons]; omega
  rw [this]; rfl
theorem take_snoc' {α : Type} (l : List α) (k : Nat) (h : k < l.length) : l.take (k + 1) = l.take k ++ [l[k]] := List.take_succ_eq_append_getElem h
theorem flat_take_it (is : List It) (k : Nat) (h : k < is.length) : (is.take (k + 1)).flatMap eIt = (is.take k).flatMap eIt ++ eIt is[k] := by
  rw [take_snoc' is k h, List.flatMap_append]; simp
theorem flat_take_en (is : List En) (k : Nat) (h : k < is.length) : (is.take (k + 1)).flatMap eEn = (is.take k).flatMap eEn ++ eEn is[k] := by
  rw [take_snoc' is k h, List.flatMap_append]; simp
theorem flat_it_len (is : List It) : (is.flatMap eIt).length = 11 * is.length := by
  have := eIts_len is; unfold eIts at this; rw [List.length_append] at this; simp at this; simp; omega
theorem flat_en_len (is : List En) : (is.flatMap eEn).length = 13 * is.length := by
  have := eEns_len is; unfold eEns at this; rw [List.length_append] at this; simp at this; simp; omega

end Go.Proofs.Ytammnaafdhhjaaa
