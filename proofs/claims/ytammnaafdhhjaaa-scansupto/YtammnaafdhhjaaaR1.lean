/- Ytammnaafdhhjaaa: the document's Sum, numbers as bytes, and bytes as numbers. -/
import Derived.Test.YtammnaafdhhjaaaB2
namespace Go.Proofs.Ytammnaafdhhjaaa
open Go.RowKit

set_option maxHeartbeats 400000 in
theorem refSum_any (l : List UInt8) (w : World) (hl : l.length ≤ maxLen) :
    Calls Try.prog 7 #[.string (S l)] w fun e w' => e = .returned (.int .i64 (sumL l)) ∧ w' = w := by
  unfold maxLen at hl
  obtain ⟨n, hn⟩ : ∃ n, (S l).size = n := ⟨_, rfl⟩
  have HN := Hid.mk' hn
  have hnl : Hid (n = l.length) := by show n = l.length; rw [← hn]; exact S_size l
  have hnm : n ≤ 9223372036854775807 := by rw [hnl.out]; omega
  go_enter Try.func7, Try.ntmps7
  go_wp2
  go_loop [3, 4] (fun t i => ∃ k : Nat, k ≤ n ∧ i = .int .i64 k ∧ t = .int .i64 (sumL (l.take k))) (fun _ i => n - (intOf i).toNat)
  case atStart => exact ⟨0, Nat.zero_le _, rfl, rfl⟩
  case round =>
    obtain ⟨k, hk, rfl, rfl⟩ := hrel
    obtain ⟨hd0, hd1⟩ := sumL_bd (l.take k)
    by_cases hlt : k < n
    · have hkl : k < l.length := by rw [← hnl.out]; exact hlt
      have hks : k < (S l).size := by rw [HN.out]; exact hlt
      have hts : Hid (l.take (k + 1) = l.take k ++ [(S l)[k]]) := by
        show _ = _
        rw [take_snoc' l k hkl]; rfl
      generalize hA : sumL (l.take k) = A at *
      have HA := Hid.mk' hA
      clear hA
      have hc := (S l)[k].toNat_lt
      go_wp2
      go_round
      case rel => exact ⟨k + 1, by omega, by go_num, by rw [hts.out, sumL_snoc, HA.out, Int.mul_comm 31 A]⟩
      case measure => simp [intOf]; omega
    · go_wp2
      go_ret
      exact ⟨ret_int (by rw [List.take_of_length_le (by rw [← hnl.out]; omega)]), rfl⟩

/-- So many bytes of a number, the highest first. -/
def beN : Nat → Int → List UInt8
  | 0, _ => []
  | k + 1, n => beN k (n / 256) ++ [u8 (n % 256)]
def shN : Nat → Int → Int
  | 0, n => n
  | k + 1, n => shN k n / 256
theorem shN_bd (k : Nat) (n : Int) (h0 : 0 ≤ n) (h1 : n ≤ 4294967295) : 0 ≤ shN k n ∧ shN k n ≤ 4294967295 := by
  induction k with
  | zero => exact ⟨h0, h1⟩
  | succ k ih => unfold shN; omega
theorem shN_div (k : Nat) (n : Int) : shN k (n / 256) = shN k n / 256 := by
  induction k with
  | zero => rfl
  | succ k ih => show shN k (n / 256) / 256 = _; rw [ih]; rfl
theorem beN_front (k : Nat) (n : Int) : beN (k + 1) n = u8 (shN k n % 256) :: beN k n := by
  induction k generalizing n with
  | zero => rfl
  | succ k ih =>
    show beN (k + 1) (n / 256) ++ [u8 (n % 256)] = _
    rw [ih (n / 256), shN_div]; rfl
theorem beN_len (k : Nat) (n : Int) : (beN k n).length = k := by
  induction k generalizing n with
  | zero => rfl
  | succ k ih => show (beN k (n / 256) ++ [u8 (n % 256)]).length = _; rw [List.length_append, ih]; rfl
theorem beN1 (n : Int) (h0 : 0 ≤ n) (h1 : n ≤ 255) : beN 1 n = [u8 n] := by show [u8 (n % 256)] = _; rw [show n % 256 = n by omega]
theorem beN2 (n : Int) (h0 : 0 ≤ n) (h1 : n ≤ 65535) : beN 2 n = n2 n := by show [u8 (n / 256 % 256), u8 (n % 256)] = _; rw [show n / 256 % 256 = n / 256 by omega]; rfl
theorem beN4 (b : Nat) (h1 : b < 4294967296) : beN 4 (b : Int) = n4 b := by
  show [u8 ((b : Int) / 256 / 256 / 256 % 256), u8 ((b : Int) / 256 / 256 % 256), u8 ((b : Int) / 256 % 256), u8 ((b : Int) % 256)] = _
  rw [show (b : Int) / 256 / 256 / 256 % 256 = (b : Int) / 16777216 by omega, show (b : Int) / 256 / 256 % 256 = (b : Int) / 65536 % 256 by omega]
  rfl

def topB (k : Nat) (n : Int) : UInt8 := u8 (shN k n % 256)
theorem topB_by (k : Nat) (n : Int) (_h : 0 ≤ shN k n) : by8 (topB k n) = .int .u8 (shN k n % 256) := by8_u8 _ (by omega) (by omega)

set_option maxHeartbeats 1000000 in
theorem refNumber_any (n : Int) (bs : Nat) (w : World) (h0 : 0 ≤ n) (h1 : n ≤ 4294967295) (hb : bs ≤ 4) :
    Calls Try.prog 27 #[.int .i64 n, .int .i64 (bs : Int)] w fun e w' => e = .returned (.string (S (beN bs n))) ∧ w.grownBy w' none := by
  go_enter Try.func27, Try.ntmps27
  go_wp2
  go_loopw [0, 5, 6] (fun m s i wr => ∃ k : Nat, k ≤ bs ∧ i = .int .i64 k ∧ m = .int .i64 (shN k n) ∧ s = .string (S (beN k n)) ∧ w.grownBy wr none) (fun _ _ i _ => bs - (intOf i).toNat)
  case atStart => exact ⟨0, by omega, rfl, rfl, rfl, grownBy_refl _ _⟩
  case round =>
    obtain ⟨k, hk, rfl, rfl, rfl, gk⟩ := hrel
    by_cases hlt : k < bs
    · obtain ⟨s0, s1⟩ := shN_bd k n h0 h1
      have E : Hid (#[.int .u8 (shN k n % 256)] = (([topB k n]).map by8).toArray) := by
        show _ = _
        simp only [List.map_cons, List.map_nil]
        rw [topB_by k n s0]
      have hst := run_str _ _ _ _ (own_new wr [topB k n] #[.int .u8 (shN k n % 256)] E.out (by simp))
      simp only [List.length_cons, List.length_nil] at hst
      have hap : S [topB k n] ++ S (beN k n) = S (beN (k + 1) n) := by rw [S_app, beN_front]; rfl
      have z1 : (S [topB k n]).size = 1 := rfl
      have z2 : (S (beN k n)).size = k := by rw [S_size, beN_len]
      go_wp2
      go_roundw
      case rel => exact ⟨k + 1, by omega, by go_num, rfl, rfl, grownBy_alloc' gk _⟩
      case measure => simp [intOf]; omega
    · obtain rfl : k = bs := by omega
      go_wp2
      go_ret
      exact ⟨rfl, gk⟩
end Go.Proofs.Ytammnaafdhhjaaa
