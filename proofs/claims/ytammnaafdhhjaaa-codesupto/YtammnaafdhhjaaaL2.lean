/- Ytammnaafdhhjaaa: how many elements a record among the arguments has, by the bulk. -/
import Derived.Test.YtammnaafdhhjaaaL1
import Derived.Test.YtammnaafdhhjaaaBK
namespace Go.Proofs.Ytammnaafdhhjaaa
open Go.ChangeShapes Go.WideShapes Go.ChangeAt Go.RowKit

section
variable {H : Type} {enc : TypeId × Value → H} {W : World} {sp : Nat → Bool}

theorem slice_bulk {fuel : Nat} {t e : TypeId} {a : Option Addr} {n c : Nat} {x : DataW H × List MemPlace} (ht : Try.prog.underlying t = some (.slice e)) (h : DataW.trod enc Try.prog W 0 sp true fuel t [.slice a n c] = some x) : n ≤ Rows.uptoBulk x.1 := by
  rcases Deep.open_slice ht h with ⟨h0, _⟩ | ⟨a', len, cap, m, n', D, Pl, h1, _, _, _, _, hx, _⟩
  · simp only [List.cons.injEq, Value.slice.injEq, and_true] at h0
    omega
  · simp only [List.cons.injEq, Value.slice.injEq, and_true] at h1
    obtain ⟨_, rfl, _⟩ := h1
    rw [hx]
    have := bulks.places ((List.range n).map D) ((List.range (m - n)).map fun j => D (n + j))
    simp only [List.length_map, List.length_range] at this
    exact Nat.le_of_lt this

set_option maxRecDepth 100000 in
theorem record_bulk {K s : Int} {i : It} {m : Mk} {a a' : Option Addr} {n c n' c' : Nat} {d : DataW H} {p : List MemPlace} (h : DataW.Trod enc Try.prog W 0 sp true 32 (rv K s i m (.slice a n c) (.slice a' n' c')) d p) :
    n ≤ Rows.uptoBulk d ∧ n' ≤ Rows.uptoBulk d := by
  obtain ⟨fuel, hf⟩ := h
  obtain ⟨xs, k, _, hd, hl, hx, hy⟩ := DataW.trod_struct Try.underlying32 hf
  have hd' : d = .agg (xs.map (·.1)) := congrArg Prod.fst hd
  have hx6 : xs.length = 6 := hx
  rw [hd']
  constructor
  · have h4 : DataW.trod enc Try.prog W 0 sp true k 29 [.slice a n c] = some xs[4] := by
      have := hy 4 _ rfl
      rw [List.getElem?_eq_getElem (by omega)] at this
      exact this
    exact Nat.le_trans (slice_bulk Try.underlying29 h4) (bulks.among (List.mem_map.2 ⟨_, List.getElem_mem _, rfl⟩))
  · have h5 : DataW.trod enc Try.prog W 0 sp true k 30 [.slice a' n' c'] = some xs[5] := by
      have := hy 5 _ rfl
      rw [List.getElem?_eq_getElem (by omega)] at this
      exact this
    exact Nat.le_trans (slice_bulk Try.underlying30 h5) (bulks.among (List.mem_map.2 ⟨_, List.getElem_mem _, rfl⟩))
end
end Go.Proofs.Ytammnaafdhhjaaa
