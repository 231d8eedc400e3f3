/- Ytammnaafdhhjaaa: Decode. -/
import Derived.Test.YtammnaafdhhjaaaE2
import Derived.Test.YtammnaafdhhjaaaJW40
import Derived.Test.YtammnaafdhhjaaaJW45
namespace Go.Proofs.Ytammnaafdhhjaaa
open Go.RowKit

/-- What is read of a text. -/
def dec (l : List UInt8) : Rc := pRc (b1 l) (t1 l)

theorem record_any (l : List UInt8) (b : Nat) (w : World) (h : w.cell? ⟨b, 0, none⟩ = some (.string (S l))) (hf : w.frozen? ⟨b, 0, none⟩ = false) :
    Calls Try.prog 37 #[.pointer (some ⟨b, 0, none⟩)] w fun e w' => RecPost b w (dec l) e w' := by
  unfold dec
  by_cases h1 : b1 l = 1
  · rw [h1]; exact record_1 l h1 b w h hf
  by_cases h2 : b1 l = 2
  · rw [h2]; exact record_2 l h2 b w h hf
  by_cases h4 : b1 l = 4
  · rw [h4]; exact record_4 l h4 b w h hf
  by_cases h7 : b1 l = 7
  · rw [h7]; exact record_7 l h7 b w h hf
  by_cases h5 : b1 l = 5
  · rw [h5]; exact record_5 l h5 b w h hf
  by_cases h8 : b1 l = 8
  · rw [h8]; exact record_8 l h8 b w h hf
  by_cases h6 : b1 l = 6
  · rw [h6]
    exact record_6 l h6 _ _ (Int.toNat_of_nonneg (b1_bd _).1).symm (Int.toNat_of_nonneg (b1_bd _).1).symm b w h hf
  have E : pRc (b1 l) (t1 l) = ⟨b1 l, 0, it0, mk0, [], []⟩ := by
    unfold pRc
    rw [if_neg h1, if_neg h2, if_neg (by omega), if_neg (by omega), if_neg h6]
  rw [E]
  exact record_other l (b1 l) rfl (by simpa using h1) (by simpa using h2) (by simpa using h4) (by simpa using h7) (by simpa using h5) (by simpa using h8) (by simpa using h6) b w h hf

theorem pIt_wf (l : List UInt8) : WfIt (pIt l) := ⟨b4_lt _, b4_lt _⟩
theorem it0_wf : WfIt it0 := ⟨by decide, by decide⟩
theorem pItN_wf (n : Nat) (l : List UInt8) : ∀ i ∈ pItN n l, WfIt i := by
  induction n with
  | zero => simp [pItN]
  | succ n ih =>
    intro i hi
    simp only [pItN, List.mem_append, List.mem_singleton] at hi
    rcases hi with hi | rfl
    · exact ih i hi
    · exact pIt_wf _
theorem pEnN_wf (n : Nat) (l : List UInt8) : ∀ e ∈ pEnN n l, WfIt e.it := by
  induction n with
  | zero => simp [pEnN]
  | succ n ih =>
    intro i hi
    simp only [pEnN, List.mem_append, List.mem_singleton] at hi
    rcases hi with hi | rfl
    · exact ih i hi
    · exact pIt_wf _
theorem dec_wf (l : List UInt8) : WfR (dec l) := by
  unfold dec pRc
  split
  · exact ⟨pIt_wf _, by simp, by simp⟩
  split
  · exact ⟨⟨by show 0 < 4294967296; omega, by show 0 < 4294967296; omega⟩, by simp, by simp⟩
  split
  · exact ⟨pIt_wf _, by simp, by simp⟩
  split
  · exact ⟨it0_wf, by simp, by simp⟩
  split
  · exact ⟨it0_wf, pItN_wf _ _, pEnN_wf _ _⟩
  · exact ⟨it0_wf, by simp, by simp⟩

/-- Is it just what Encode gives of what is read? -/
def decB (l : List UInt8) : Bool := mayB (dec l) && (enc (dec l) == l)
def zeroV : Value := rv 0 0 it0 mk0 (.slice none 0 0) (.slice none 0 0)
def DecPost (w : World) (l : List UInt8) (e : Ending) (w' : World) : Prop :=
  w.grownBy w' none ∧
  ((decB l = false ∧ e = .returned (.tuple #[zeroV, .int .i64 7])) ∨
   (decB l = true ∧ ∃ vi vo, e = .returned (.tuple #[rv (dec l).kind (dec l).seq (dec l).it (dec l).mks vi vo, .int .i64 0]) ∧ OwnI w.heap.size w' vi (dec l).items ∧ OwnE w.heap.size w' vo (dec l).outs ∧ (∀ j, vi.ownBlock = some j → vo.ownBlock ≠ some j)))

theorem grownBy_new {w W w' : World} {b : Nat} (h : w.grownBy W none) (g : W.grownBy w' (some b)) (hb : w.heap.size ≤ b) : w.grownBy w' none :=
  ⟨g.os.trans h.os, g.tape.trans h.tape, g.output.trans h.output, Nat.le_trans h.size g.size, fun k hk _ => by
    have hz := h.size
    rw [g.block k (by omega) (by intro e; injection e with e; omega), h.block k hk (by simp)]⟩
theorem own_grown {B : Nat} {e : TypeId} {size : Nat} {v : Value} {n : Nat} {xs : List Value} {w w' : World} (h : w.ownsRow B e size v n xs) (g : w.grownBy w' none) : w'.ownsRow B e size v n xs :=
  h.kept g (by cases hv : v.ownBlock <;> simp)

end Go.Proofs.Ytammnaafdhhjaaa
