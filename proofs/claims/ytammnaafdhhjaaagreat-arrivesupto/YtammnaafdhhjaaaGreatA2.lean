import Derived.BigQuiet
import Derived.Test.YtammnaafdhhjaaaGreatRows
import Derived.Test.YtammnaafdhhjaaaGreatA1
import Derived.Test.YtammnaafdhhjaaaGreatJG7
set_option maxHeartbeats 16000000
set_option maxRecDepth 100000
namespace Go.Proofs.YtammnaafdhhjaaaGreat
open Go.RowKit Go.Shelf Go.Lib Go.Sort
def cutN (t : List UInt8) (n : Int) : List UInt8 := t.take n.toNat
def spoilK (fs : List (List UInt8)) (k n : Int) : List (List UInt8) := if isK fs k then fs.set k.toNat (cutN (atK fs k) n) else fs
theorem OwnF.stored {B : Nat} {w : World} {g c : Nat} {fs : List (List UInt8)} (h : OwnF B w (.slice (some ⟨g, 0, none⟩) fs.length c) fs) (k : Nat) (t : List UInt8) : OwnF B (w.setCell ⟨g, k, none⟩ (.string (S t))) (.slice (some ⟨g, 0, none⟩) fs.length c) (fs.set k t) /\ w.grownBy (w.setCell ⟨g, k, none⟩ (.string (S t))) (some g) := by
 unfold OwnF OwnT at *
 rw [flatT, List.length_map] at *
 have := World.ownsRow.stored h k (.string (S t))
 rw [List.map_set] at *
 rw [List.length_set]
 exact this
theorem spoil_yes (bp k : Nat) (cs : List Value) (B : Nat) (v : Value) (fs : List (List UInt8)) (n : Nat) (m : Int) (w : World) (h : At w bp cs) (hk : cs[k]? = some v) (ho : OwnF B w v fs) (hn : v.ownBlock ≠ some bp) (hi : n < fs.length) (ht : (fs.getD n []).length <= 100000) :
  Calls Tryz.prog 82 #[.pointer (some ⟨bp, k, none⟩), .int .i64 n, .int .i64 m] w fun e w' => e = .returned (.int .i64 0) /\ At w' bp cs /\ OwnF B w' v (fs.set n (cutN (fs.getD n []) m)) /\ Only w w' (fun j => j = bp ∨ v.ownBlock = some j) := by
 have ik : isK fs (n : Int) := by unfold isK; omega
 have AT := Hid.mk' (fAt_any bp k v B fs n w (h.c k _ hk) ho)
 have e1 : atK fs (n : Int) = fs.getD n [] := by unfold atK; rw [if_pos ik]; simp
 have e2 : eK fs (n : Int) = 0 := if_pos ik
 rw [e1, e2] at AT
 generalize fs.getD n [] = t at *
 obtain ⟨q, hq⟩ : ∃ q : Nat, q = min m.toNat t.length := ⟨_, rfl⟩
 have ec : cutN t m = t.take q := by
  unfold cutN
  rw [hq]
  by_cases hm : m.toNat <= t.length
  ·rw [Nat.min_eq_left hm]
  ·rw [Nat.min_eq_right (by omega), List.take_of_length_le (by omega), List.take_of_length_le (Nat.le_refl _)]
 rw [ec]
 have ql : q <= t.length := by omega
 obtain ⟨g, c, rfl, hc, hfz⟩ := ho.cell hi
 have H := Hid.mk' h
 have HK := Hid.mk' hk
 have HO := Hid.mk' ho
 have hgb : g ≠ bp := fun e => hn (by rw [e]; rfl)
 have hgl : g < w.heap.size := World.block_lt_of_cell? w _ hc
 have fz := hfz n hi
 have ck := h.c k _ hk
 have ts := S_size t
 have tk : (S t).extract 0 q = S (t.take q) := S_take _ _
 have CL := Hid.mk' fun W => cloneS_any (S (t.take q)) W (by rw [S_size, List.length_take]; omega)
 have mq : min (max m 0) (t.length : Int) = (q : Int) := by omega
 clear h hk ho hn e1 e2 ik ec hfz hq
 go_enter Tryz.func82, Tryz.ntmps82
 go_wp2_with fail
 refine Calls.mono AT.out ?_
 rintro e w1 ⟨rfl, rfl⟩
 go_wp2_with fail
 clear mq
 have q0 : (0 : Int) <= (q : Int) := by omega
 have q1 : (q : Int) <= (t.length : Int) := by omega
 have n0 : (0 : Int) <= (n : Int) := by omega
 have n1 : (n : Int) < (fs.length : Int) := by omega
 refine wp_region_held_drew (S := fun w' => w'.cell? ⟨bp, k, none⟩ = some (.slice (some ⟨g, 0, none⟩) fs.length c)) (by kernel_rfl) (by go_simp) (fun hHeld => ?_)
 refine hTk 0 ?_
 simp only [lS0, lS1]
 refine hTk 1 ?_
 simp only [lS0, lS1]
 refine hTk 2 ?_
 simp only [lS0, lS1]
 refine hTk 3 ?_
 simp only [lS0, lS1]
 refine hTk 4 ?_
 simp only [lS0, lS1]
 refine hTk 5 ?_
 simp only [lS0, lS1]
 refine hTk 6 ?_
 simp only [lS0, lS1]
 refine hTk 7 ?_
 simp only [lS0, lS1]
 refine hCall 8 (f := 108) (args := #[.string (S (t.take q))]) (by kernel_rfl) (by rfl) (by rfl) (by go_simp) ?_
 refine Calls.mono (CL.out _) ?_
 rintro e w2 ⟨rfl, g2⟩
 clear hHeld
 have hHeld := g2.cell ((grownBy_drew (grownBy_refl w1 none)).cell ck (by simp)) (by simp)
 refine ⟨_, rfl, hHeld, ?_⟩
 simp only [lS0, lS1]
 refine hTk 9 ?_
 simp only [lS0, lS1]
 have G2 := Hid.mk' ((grownBy_drew (grownBy_refl w1 none)).trans g2)
 have c2 := G2.out.cell hc (by simp)
 have f2 := ((Only.grown G2.out).frozen (a := ⟨g, n, none⟩) hgl (by simp)).trans fz
 refine hRun 10 (by kernel_rfl) (by rfl) (by rfl) ?_
 intro K hK
 go_simp
 refine hK _ _ ((Only.set w2 g n _).cell hHeld (fun e => hgb e.symm)) ?_
 clear hK K
 refine wpAnyH_done (by kernel_rfl) ?_ _
 go_wp2
 go_ret
 have o2 : OwnF B w2 (.slice (some ⟨g, 0, none⟩) fs.length c) fs := own_grown HO.out G2.out
 obtain ⟨o3, g3⟩ := o2.stored n (t.take q)
 refine ⟨rfl, ((H.out.grown G2.out).only (Only.grown g3) (by simp; exact hgb)), o3, ((Only.grown G2.out).mono (by simp)).trans ((Only.grown g3).mono (fun j _ e => .inl (.inr e)))⟩
theorem set_same {cs : List Value} {k : Nat} {v : Value} (hk : cs[k]? = some v) : cs.set k v = cs := by
 apply List.ext_getElem?
 intro j
 by_cases hj : k = j
 ·subst hj
  rw [List.getElem?_set_self (List.getElem?_eq_some_iff.1 hk).1, hk]
 ·rw [List.getElem?_set_ne hj]
theorem spoil_any (bp k : Nat) (cs : List Value) (B : Nat) (v : Value) (fs : List (List UInt8)) (i m : Int) (w : World) (h : At w bp cs) (hk : cs[k]? = some v) (ho : OwnF B w v fs) (hn : v.ownBlock ≠ some bp) (ht : ∀ t ∈ fs, t.length <= 100000) :
  Calls Tryz.prog 82 #[.pointer (some ⟨bp, k, none⟩), .int .i64 i, .int .i64 m] w fun e w' => e = .returned (.int .i64 (eK fs i)) /\ ∃ v', At w' bp (cs.set k v') /\ OwnF B w' v' (spoilK fs i m) /\ Only w w' (fun j => j = bp ∨ v.ownBlock = some j) /\ (∀ j, v'.ownBlock = some j -> v.ownBlock = some j ∨ w.heap.size <= j) := by
 have e4 := set_same hk
 by_cases hi : isK fs i
 ·have e1 : atK fs i = fs.getD i.toNat [] := if_pos hi
  have e2 : eK fs i = 0 := if_pos hi
  have e3 : spoilK fs i m = fs.set i.toNat (cutN (atK fs i) m) := if_pos hi
  rw [e2, e3, e1]
  obtain ⟨n, rfl⟩ : ∃ n : Nat, i = n := ⟨i.toNat, by unfold isK at hi; omega⟩
  have hnl : n < fs.length := by unfold isK at hi; omega
  simp only [Int.toNat_natCast]
  refine (spoil_yes bp k cs B v fs n m w h hk ho hn hnl (by rw [List.getD_eq_getElem?_getD, List.getElem?_eq_getElem hnl]; exact ht _ (List.getElem_mem hnl))).mono ?_
  rintro e w' ⟨rfl, a1, o1, on⟩
  exact ⟨rfl, v, by rw [e4]; exact a1, o1, on, fun j hj => .inl hj⟩
 ·have e2 : eK fs i = 4 := if_neg hi
  have e3 : spoilK fs i m = fs := if_neg hi
  have AT := Hid.mk' (fAt_any bp k v B fs i w (h.c k _ hk) ho)
  rw [e2] at AT
  rw [e2, e3]
  have QQ := Hid.mk' (show ∃ v', At w bp (cs.set k v') /\ OwnF B w v' fs /\ Only w w (fun j => j = bp ∨ v.ownBlock = some j) /\ (∀ j, v'.ownBlock = some j -> v.ownBlock = some j ∨ w.heap.size <= j) from ⟨v, by rw [e4]; exact h, ho, Only.refl _ _, fun j hj => .inl hj⟩)
  generalize atK fs i = t at *
  clear h hk ho hn hi e2 e3 e4 ht
  go_enter Tryz.func82, Tryz.ntmps82
  go_wp2_with fail
  refine Calls.mono AT.out ?_
  rintro e w1 ⟨rfl, rfl⟩
  go_wp2
  go_ret
  exact ⟨rfl, QQ.out⟩
end Go.Proofs.YtammnaafdhhjaaaGreat
