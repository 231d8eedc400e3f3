/- Ytammnaafdhhjaaa: the document's reading of bytes. -/
import Derived.Test.YtammnaafdhhjaaaR1
namespace Go.Proofs.Ytammnaafdhhjaaa
open Go.RowKit

def byteAt (l : List UInt8) (k : Nat) : Int := ((l.getD k 0).toNat : Int)
def rdN (l : List UInt8) (at0 : Nat) : Nat → Int
  | 0 => 0
  | k + 1 => rdN l at0 k * 256 + byteAt l (at0 + k)
theorem byteAt_bd (l : List UInt8) (k : Nat) : 0 ≤ byteAt l k ∧ byteAt l k ≤ 255 := by
  unfold byteAt; have := (l.getD k 0).toNat_lt; omega
theorem rdN_bd (l : List UInt8) (a k : Nat) (hk : k ≤ 4) : 0 ≤ rdN l a k ∧ rdN l a k ≤ 4294967295 := by
  have h0 := byteAt_bd l a
  have h1 := byteAt_bd l (a + 1)
  have h2 := byteAt_bd l (a + 2)
  have h3 := byteAt_bd l (a + 3)
  match k, hk with
  | 0, _ => simp only [rdN]; omega
  | 1, _ => simp only [rdN, Nat.add_zero]; omega
  | 2, _ => simp only [rdN, Nat.add_zero]; omega
  | 3, _ => simp only [rdN, Nat.add_zero]; omega
  | 4, _ => simp only [rdN, Nat.add_zero]; omega
theorem byteAt_drop (l : List UInt8) (a : Nat) : byteAt l a = b1 (l.drop a) := by
  unfold byteAt
  by_cases h : a < l.length
  · rw [List.drop_eq_getElem_cons h, List.getD_eq_getElem?_getD, List.getElem?_eq_getElem h]; rfl
  · rw [List.drop_of_length_le (by omega), List.getD_eq_getElem?_getD, List.getElem?_eq_none (by omega)]; rfl
theorem t1_drop (l : List UInt8) (a : Nat) : t1 (l.drop a) = l.drop (a + 1) := by rw [t1_eq, List.drop_drop]
theorem rdN1 (l : List UInt8) (a : Nat) : rdN l a 1 = b1 (l.drop a) := by simp only [rdN, Nat.add_zero]; rw [byteAt_drop]; omega
theorem rdN2 (l : List UInt8) (a : Nat) : rdN l a 2 = b2 (l.drop a) := by
  simp only [rdN, Nat.add_zero]; unfold b2; rw [t1_drop, byteAt_drop, byteAt_drop]; omega
theorem rdN4 (l : List UInt8) (a : Nat) : rdN l a 4 = (b4 (l.drop a) : Int) := by
  have h1 := b2_bd (l.drop a)
  have h2 := b2_bd (l.drop (a + 2))
  have e : b4 (l.drop a) = (b2 (l.drop a) * 65536 + b2 (l.drop (a + 2))).toNat := by unfold b4; rw [t1_drop, t1_drop]
  rw [e, Int.toNat_of_nonneg (by omega), ← rdN2, ← rdN2]
  simp only [rdN, Nat.add_zero]
  rw [show a + 2 + 1 = a + 3 by omega]
  omega

set_option maxHeartbeats 1000000 in
theorem refRead_any (l : List UInt8) (a bs : Nat) (w : World) (hl : l.length ≤ 1000000000) (ha : a ≤ 1000000000) (hb : bs ≤ 4) :
    Calls Try.prog 32 #[.string (S l), .int .i64 (a : Int), .int .i64 (bs : Int)] w fun e w' => e = .returned (.int .i64 (rdN l a bs)) ∧ w' = w := by
  have hz := S_size l
  go_enter Try.func32, Try.ntmps32
  go_wp2
  go_loop [7, 8] (fun t i => ∃ k : Nat, k ≤ bs ∧ i = .int .i64 k ∧ t = .int .i64 (rdN l a k)) (fun _ i => bs - (intOf i).toNat)
  case atStart => exact ⟨0, by omega, rfl, rfl⟩
  case round =>
    obtain ⟨k, hk, rfl, rfl⟩ := hrel
    by_cases hlt : k < bs
    · obtain ⟨r0, r1⟩ := rdN_bd l a k (by omega)
      have hs : Hid (rdN l a (k + 1) = rdN l a k * 256 + byteAt l (a + k)) := rfl
      generalize rdN l a k = R at *
      by_cases hin : a + k < l.length
      · have hks : a + k < (S l).size := by rw [hz]; exact hin
        have hbt : Hid (byteAt l (a + k) = (((S l)[a + k]).toNat : Int)) := by
          show _ = _
          unfold byteAt
          rw [List.getD_eq_getElem?_getD, List.getElem?_eq_getElem hin]; rfl
        have hc := ((S l)[a + k]).toNat_lt
        have hin' : (a : Int) + (k : Int) < (l.length : Int) := by omega
        go_wp2
        exact ⟨⟨k + 1, by omega, by go_num, by rw [hs.out, hbt.out]⟩, by simp [intOf]; omega⟩
      · have hbt : Hid (byteAt l (a + k) = 0) := by
          show _ = _
          unfold byteAt
          rw [List.getD_eq_getElem?_getD, List.getElem?_eq_none (by omega)]; rfl
        go_wp2
        go_round
        case rel => exact ⟨k + 1, by omega, by go_num, by rw [hs.out, hbt.out, Int.add_zero]⟩
        case measure => simp [intOf]; omega
    · obtain rfl : k = bs := by omega
      go_wp2
      go_ret
      exact ⟨rfl, rfl⟩
end Go.Proofs.Ytammnaafdhhjaaa
