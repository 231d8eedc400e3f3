/- Ytammnaafdhhjaaa: the order of IDs. -/
import Derived.Test.YtammnaafdhhjaaaW5
import Derived.Deep.RegionHeld3
namespace Go.Proofs.Ytammnaafdhhjaaa
open Go.RowKit

def cmpI (x y : Int) : Int := if x < y then -1 else if y < x then 1 else 0
def orI (x y : Int) : Int := if x = 0 then y else x

set_option maxHeartbeats 400000 in
theorem cmp_any (x y : Int) (w : World) :
    Calls Try.prog 82 #[.int .i64 x, .int .i64 y] w fun e w' => e = .returned (.int .i64 (cmpI x y)) ∧ w' = w := by
  go_enter Try.func82, Try.ntmps82
  go_wp2
  all_goals (go_ret; refine ⟨ret_int ?_, rfl⟩)
  all_goals (unfold cmpI; first | (rw [if_pos (by assumption)]; done) | (rw [if_neg (by omega), if_pos (by assumption)]; done) | (rw [if_neg (by omega), if_neg (by omega)]))

set_option maxHeartbeats 400000 in
theorem or_any (x y : Int) (g : Nat) (w : World) (h0 : w.cell? ⟨g, 0, none⟩ = some (.int .i64 x)) (h1 : w.cell? ⟨g, 1, none⟩ = some (.int .i64 y)) :
    Calls Try.prog 81 #[.slice (some ⟨g, 0, none⟩) 2 2] w fun e w' => e = .returned (.int .i64 (orI x y)) ∧ w' = w := by
  go_enter Try.func81, Try.ntmps81
  go_wp2
  go_loop [8] (fun i => ∃ k : Nat, k ≤ 2 ∧ i = .int .i64 k ∧ (0 < k → x = 0) ∧ (1 < k → y = 0)) (fun i => 2 - (intOf i).toNat)
  case atStart => exact ⟨0, by omega, rfl, by omega, by omega⟩
  case round =>
    obtain ⟨k, hk, rfl, hx, hy⟩ := hrel
    have hk3 : k = 0 ∨ k = 1 ∨ k = 2 := by omega
    rcases hk3 with rfl | rfl | rfl
    · clear hx hy hk
      go_wp2
      · go_ret
        exact ⟨ret_int (by have hh := ‹(x != 0) = true›; simp at hh; simp [orI, hh]), rfl⟩
      · go_round
        case rel => exact ⟨1, by omega, rfl, fun _ => by have hh := ‹(x != 0) = false›; simpa using hh, by omega⟩
        case measure => simp [intOf]
    · have hx0 : x = 0 := hx (by omega)
      subst hx0
      clear hx hy hk
      go_wp2
      · go_ret
        exact ⟨ret_int (by simp [orI]), rfl⟩
      · go_round
        case rel => exact ⟨2, by omega, rfl, fun _ => trivial, fun _ => by have hh := ‹(y != 0) = false›; simpa using hh⟩
        case measure => simp [intOf]
    · have hx0 : x = 0 := hx (by omega)
      have hy0 : y = 0 := hy (by omega)
      subst hx0 hy0
      clear hx hy hk
      go_wp2
      go_ret
      exact ⟨ret_int (by simp [orI]), rfl⟩

theorem grownBy_drew {w w' : World} {row : Option Nat} (h : w.grownBy w' row) : w.grownBy w'.drew row := ⟨h.os, h.tape, h.output, h.size, h.block⟩

def cmpID (a b c d : Int) : Int := orI (cmpI a c) (cmpI b d)
set_option maxHeartbeats 2000000 in
theorem compare_any (a b c d : Int) (w : World) :
    Calls Try.prog 79 #[.agg #[.int .i64 a, .int .i64 b], .agg #[.int .i64 c, .int .i64 d]] w fun e w' => e = .returned (.int .i64 (cmpID a b c d)) ∧ w.grownBy w' none := by
  go_enter Try.func79, Try.ntmps79
  go_wp2
  go_region_held3 (fun w' => w'.cell? ⟨w.heap.size, 0, none⟩ = some (.int .i64 a) ∧ w'.cell? ⟨w.heap.size, 1, none⟩ = some (.int .i64 b) ∧ w'.cell? ⟨w.heap.size + 1, 0, none⟩ = some (.int .i64 c) ∧ w'.cell? ⟨w.heap.size + 1, 1, none⟩ = some (.int .i64 d)) (go_keep)
    (first | (go_at_call 82; refine (cmp_any _ _ _).mono ?_; rintro e w' ⟨rfl, rfl⟩) | (go_at_call 81; refine (or_any (cmpI a c) (cmpI b d) _ _ ?_ ?_).mono ?_; (go_simp); (go_simp); rintro e w' ⟨rfl, rfl⟩))
  go_wp2
  go_ret
  exact ⟨rfl, grownBy_drew (grownBy_alloc' (grownBy_alloc' (World.grownBy_alloc _ _ _) _) _)⟩

/-- .. and four cells that are held besides. -/
theorem compare_held (a b c d : Int) (w : World) (p0 p1 p2 p3 : Addr) (v0 v1 v2 v3 : Value) (h : w.cell? p0 = some v0 ∧ w.cell? p1 = some v1 ∧ w.cell? p2 = some v2 ∧ w.cell? p3 = some v3) :
    Calls Try.prog 79 #[.agg #[.int .i64 a, .int .i64 b], .agg #[.int .i64 c, .int .i64 d]] w fun e w' => e = .returned (.int .i64 (cmpID a b c d)) ∧ w.grownBy w' none ∧ w'.cell? p0 = some v0 ∧ w'.cell? p1 = some v1 ∧ w'.cell? p2 = some v2 ∧ w'.cell? p3 = some v3 := by
  refine (compare_any a b c d w).mono ?_
  rintro e w' ⟨he, g⟩
  exact ⟨he, g, g.cell h.1 (by simp), g.cell h.2.1 (by simp), g.cell h.2.2.1 (by simp), g.cell h.2.2.2 (by simp)⟩

/-- A slice that is read: it has n elements, whose cells are xs. -/
def Lies (w : World) (v : Value) (n : Nat) (xs : List Value) : Prop :=
  ∃ a c, v = .slice a n c ∧ (0 < n → ∃ g off, a = some ⟨g, off, none⟩ ∧ ∀ j u, xs[j]? = some u → w.cell? ⟨g, off + j, none⟩ = some u)
def LiesI (w : World) (v : Value) (is : List It) : Prop := Lies w v is.length (is.flatMap It.cells)
def LiesE (w : World) (v : Value) (es : List En) : Prop := Lies w v es.length (es.flatMap En.cells)
theorem Lies.of_own {B : Nat} {e : TypeId} {size : Nat} {v : Value} {n : Nat} {xs : List Value} {w : World} (h : w.ownsRow B e size v n xs) : Lies w v n xs := by
  rcases h.2 with ⟨rfl, hn⟩ | ⟨g, cap, cur, rfl, _⟩
  · subst hn; exact ⟨none, 0, rfl, by omega⟩
  · refine ⟨_, cap, rfl, fun _ => ⟨g, 0, rfl, fun j u hu => ?_⟩⟩
    have := h.cells (g := g) rfl j u hu
    rw [show (⟨g, 0, none⟩ : Addr).add j = ⟨g, 0 + j, none⟩ by unfold Addr.add; split <;> simp_all] at this
    exact this
theorem Lies.grown {w w' : World} {v : Value} {n : Nat} {xs : List Value} (h : Lies w v n xs) (g : w.grownBy w' none) : Lies w' v n xs := by
  obtain ⟨a, c, hv, hx⟩ := h
  refine ⟨a, c, hv, fun hn => ?_⟩
  obtain ⟨b, off, ha, hc⟩ := hx hn
  exact ⟨b, off, ha, fun j u hu => g.cell (hc j u hu) (by simp)⟩

theorem flat_at4 (is : List It) (k j : Nat) (hk : k < is.length) (hj : j < 4) : (is.flatMap It.cells)[4 * k + j]? = is[k].cells[j]? := by
  induction is generalizing k with
  | nil => simp at hk
  | cons i t ih =>
    rw [List.flatMap_cons]
    cases k with
    | zero => rw [List.getElem?_append_left (by simp [It.cells]; omega)]; simp
    | succ k =>
      rw [List.getElem?_append_right (by simp [It.cells]; omega)]
      have e : 4 * (k + 1) + j - i.cells.length = 4 * k + j := by simp [It.cells]; omega
      rw [e, ih k (by simpa using hk)]; rfl
theorem flat_at5 (is : List En) (k j : Nat) (hk : k < is.length) (hj : j < 5) : (is.flatMap En.cells)[5 * k + j]? = is[k].cells[j]? := by
  induction is generalizing k with
  | nil => simp at hk
  | cons i t ih =>
    rw [List.flatMap_cons]
    cases k with
    | zero => rw [List.getElem?_append_left (by simp [En.cells]; omega)]; simp
    | succ k =>
      rw [List.getElem?_append_right (by simp [En.cells]; omega)]
      have e : 5 * (k + 1) + j - i.cells.length = 5 * k + j := by simp [En.cells]; omega
      rw [e, ih k (by simpa using hk)]; rfl

end Go.Proofs.Ytammnaafdhhjaaa
