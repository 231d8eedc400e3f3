/- Ytammnaafdhhjaaa: records that may be. -/
import Derived.Test.YtammnaafdhhjaaaW7
namespace Go.Proofs.Ytammnaafdhhjaaa
open Go.RowKit

def baseB (r : Rc) : Bool := mkB r.mks && itemsB r.items && outsB r.outs
def nobB (r : Rc) : Bool := mkZ r.mks && (r.items.length == 0) && (r.outs.length == 0)
def mayB (r : Rc) : Bool :=
  if r.kind = 1 then (r.seq == 0) && itB r.it && nobB r
  else if r.kind = 2 then (r.seq == 0) && idB r.it.sh r.it.nu && stB r.it && nobB r
  else if r.kind = 3 then (r.seq == 0) && noIt r.it && nobB r
  else if r.kind = 4 ∨ r.kind = 7 then decide (1 ≤ r.seq) && isN r.seq && itB r.it && nobB r
  else if r.kind = 5 ∨ r.kind = 8 then isN r.seq && noIt r.it && nobB r
  else if r.kind = 6 then (r.seq == 0) && noIt r.it && baseB r
  else false

/-- A record as it lies before a call. -/
structure Rec (w : World) (v : Value) (r : Rc) (vi vo : Value) : Prop where
  v : v = rv r.kind r.seq r.it r.mks vi vo
  i : LiesI w vi r.items
  o : LiesE w vo r.outs

set_option maxHeartbeats 1000000 in
theorem baseMay_any (r : Rc) (vi vo : Value) (w : World) (hi : LiesI w vi r.items) (ho : LiesE w vo r.outs) :
    Calls Try.prog 53 #[rv r.kind r.seq r.it r.mks vi vo] w fun e w' => e = .returned (.bool (baseB r)) ∧ w.grownBy w' none := by
  obtain ⟨K, s, i, m, is, es⟩ := r
  have HI := Hid.mk' hi
  have HO := Hid.mk' ho
  clear hi ho
  unfold rv
  obtain ⟨ai, ci, rfl, _⟩ := HI.out
  obtain ⟨ao, co, rfl, _⟩ := HO.out
  go_enter Try.func53, Try.ntmps53
  go_wp2_with fail
  refine (marksMay_any m _).mono ?_
  rintro e w1 ⟨rfl, g1⟩
  have G1 := Hid.mk' ((World.grownBy_alloc w _ none).trans g1)
  have c11 : w1.cell? ⟨w.heap.size, 11, none⟩ = some (.slice ai is.length ci) := g1.cell (by go_simp) (by simp)
  have c12 : w1.cell? ⟨w.heap.size, 12, none⟩ = some (.slice ao es.length co) := g1.cell (by go_simp) (by simp)
  cases hm : mkB m
  · go_wp2_with fail
    go_ret
    exact ⟨ret_bool (by simp [baseB, hm]), G1.out⟩
  · go_wp2_with fail
    refine (itemsMay_any _ is _ (HI.out.grown G1.out)).mono ?_
    rintro e w2 ⟨rfl, g2⟩
    have G2 := Hid.mk' (G1.out.trans g2)
    have d12 : w2.cell? ⟨w.heap.size, 12, none⟩ = some (.slice ao es.length co) := g2.cell c12 (by simp)
    cases hi : itemsB is
    · go_wp2_with fail
      go_ret
      exact ⟨ret_bool (by simp [baseB, hi]), G2.out⟩
    · go_wp2_with fail
      refine (outboxMay_any _ es _ (HO.out.grown G2.out)).mono ?_
      rintro e w3 ⟨rfl, g3⟩
      go_wp2_with fail
      go_ret
      exact ⟨ret_bool (by simp [baseB, hm, hi]), G2.out.trans g3⟩
end Go.Proofs.Ytammnaafdhhjaaa
