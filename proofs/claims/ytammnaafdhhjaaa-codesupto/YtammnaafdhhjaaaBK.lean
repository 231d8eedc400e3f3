/- Ytammnaafdhhjaaa: what the bound on the arguments' bulk gives. -/
import Derived.Test.YtammnaafdhhjaaaRows
namespace Go.Proofs.Ytammnaafdhhjaaa.bulks

theorem pos {H : Type} (d : DataW H) : 0 < Rows.uptoBulk d := by
  cases d
  case lit l => cases l <;> simp [Rows.uptoBulk]
  all_goals simp [Rows.uptoBulk]

theorem many {H : Type} : ∀ l : List (DataW H), l.length ≤ Rows.uptoBulkAll l
  | [] => by simp
  | x :: r => by
    have := pos x
    have := many r
    simp only [Rows.uptoBulkAll, List.length_cons]
    omega

theorem among {H : Type} {d : DataW H} : ∀ {l : List (DataW H)}, d ∈ l → Rows.uptoBulk d ≤ Rows.uptoBulk (.agg l) := by
  intro l
  simp only [Rows.uptoBulk]
  induction l with
  | nil => simp
  | cons x r ih =>
    intro h
    simp only [Rows.uptoBulkAll]
    rcases List.mem_cons.1 h with rfl | h
    · omega
    · have := ih h
      omega

theorem places {H : Type} (l r : List (DataW H)) : l.length < Rows.uptoBulk (.slice l r) := by
  have := many l
  simp only [Rows.uptoBulk]
  omega
end Go.Proofs.Ytammnaafdhhjaaa.bulks
