import Derived.Lib.ConvBytes
import Derived.Test.YtammnaafdhhjaaaGreatRows
import Derived.Test.YtammnaafdhhjaaaGreatB1
set_option maxHeartbeats 16000000
set_option maxRecDepth 100000
namespace Go.Proofs.YtammnaafdhhjaaaGreat
open Go.RowKit
theorem slice_len {B : Nat} {e : TypeId} {size : Nat} {v : Value} {n : Nat} {xs : List Value} {w : World} (h : w.ownsRow B e size v n xs) : ∃ a c, v = .slice a n c := by
 rcases h.2 with ⟨rfl, rfl⟩ | ⟨g, cap, cur, rfl, _⟩
 ·exact ⟨_, _, rfl⟩
 ·exact ⟨_, _, rfl⟩
theorem S_app (a b : List UInt8) : S a ++ S b = S (a ++ b) := by
 apply ByteArray.ext; simp [S]
theorem enc_len (r : Rc) (hm : mayB r = true) : 3 <= (enc r).length /\ (enc r).length <= 1100 := by
 have h := body_len r hm
 have h1 : 1 <= (body r).length := by
  unfold body
  repeat' split
  all_goals simp
 unfold enc
 rw [List.length_append, n2_len]
 omega
theorem refSum_any (l : List UInt8) (w : World) (hl : l.length <= maxLen) :
  Calls Tryz.prog 154 #[.string (S l)] w fun e w' => e = .returned (.int .i64 (sumL l)) /\ w' = w := by
 unfold maxLen at hl
 obtain ⟨n, hn⟩ : ∃ n, (S l).size = n := ⟨_, rfl⟩
 have HN := Hid.mk' hn
 have hnl : Hid (n = l.length) := by show n = l.length; rw [<- hn]; exact S_size l
 have hnm : n <= 9223372036854775807 := by rw [hnl.out]; omega
 go_enter Tryz.func154, Tryz.ntmps154
 go_wp2
 go_loop [3, 4] (fun t i => ∃ k : Nat, k <= n /\ i = .int .i64 k /\ t = .int .i64 (sumL (l.take k))) (fun _ i => n - (intOf i).toNat)
 case atStart => exact ⟨0, Nat.zero_le _, rfl, rfl⟩
 case round =>
  obtain ⟨k, hk, rfl, rfl⟩ := hrel
  obtain ⟨hd0, hd1⟩ := sumL_bd (l.take k)
  by_cases hlt : k < n
  ·have hkl : k < l.length := by rw [<- hnl.out]; exact hlt
   have hks : k < (S l).size := by rw [HN.out]; exact hlt
   have hts : Hid (l.take (k + 1) = l.take k ++ [(S l)[k]]) := by
    show _ = _
    rw [take_snoc' l k hkl]; rfl
   generalize hA : sumL (l.take k) = A at *
   have HA := Hid.mk' hA
   clear hA
   have hc := (S l)[k].toNat_lt
   go_wp2
   go_round
   case rel => exact ⟨k + 1, by omega, by go_num, by rw [hts.out, sumL_snoc, HA.out, Int.mul_comm 31 A]⟩
   case measure => simp [intOf]; omega
  ·go_wp2
   go_ret
   exact ⟨ret_int (by rw [List.take_of_length_le (by rw [<- hnl.out]; omega)]), rfl⟩
def beN : Nat -> Int -> List UInt8
 | 0, _ => []
 | k + 1, n => beN k (n / 256) ++ [u8 (n % 256)]
def shN : Nat -> Int -> Int
 | 0, n => n
 | k + 1, n => shN k n / 256
theorem shN_bd (k : Nat) (n : Int) (h0 : 0 <= n) (h1 : n <= 4294967295) : 0 <= shN k n /\ shN k n <= 4294967295 := by
 induction k with
 | zero => exact ⟨h0, h1⟩
 | succ k ih => unfold shN; omega
theorem shN_div (k : Nat) (n : Int) : shN k (n / 256) = shN k n / 256 := by
 induction k with
 | zero => rfl
 | succ k ih => show shN k (n / 256) / 256 = _; rw [ih]; rfl
theorem beN_front (k : Nat) (n : Int) : beN (k + 1) n = u8 (shN k n % 256) :: beN k n := by
 induction k generalizing n with
 | zero => rfl
 | succ k ih =>
  show beN (k + 1) (n / 256) ++ [u8 (n % 256)] = _
  rw [ih (n / 256), shN_div]; rfl
theorem beN_len (k : Nat) (n : Int) : (beN k n).length = k := by
 induction k generalizing n with
 | zero => rfl
 | succ k ih => show (beN k (n / 256) ++ [u8 (n % 256)]).length = _; rw [List.length_append, ih]; rfl
theorem beN1 (n : Int) (h0 : 0 <= n) (h1 : n <= 255) : beN 1 n = [u8 n] := by show [u8 (n % 256)] = _; rw [show n % 256 = n by omega]
theorem beN2 (n : Int) (h0 : 0 <= n) (h1 : n <= 65535) : beN 2 n = n2 n := by show [u8 (n / 256 % 256), u8 (n % 256)] = _; rw [show n / 256 % 256 = n / 256 by omega]; rfl
theorem beN4 (b : Nat) (h1 : b < 4294967296) : beN 4 (b : Int) = n4 b := by
 show [u8 ((b : Int) / 256 / 256 / 256 % 256), u8 ((b : Int) / 256 / 256 % 256), u8 ((b : Int) / 256 % 256), u8 ((b : Int) % 256)] = _
 rw [show (b : Int) / 256 / 256 / 256 % 256 = (b : Int) / 16777216 by omega, show (b : Int) / 256 / 256 % 256 = (b : Int) / 65536 % 256 by omega]
 rfl
def topB (k : Nat) (n : Int) : UInt8 := u8 (shN k n % 256)
theorem topB_by (k : Nat) (n : Int) (_h : 0 <= shN k n) : by8 (topB k n) = .int .u8 (shN k n % 256) := by8_u8 _ (by omega) (by omega)
theorem refNumber_any (n : Int) (bs : Nat) (w : World) (h0 : 0 <= n) (h1 : n <= 4294967295) (hb : bs <= 4) :
  Calls Tryz.prog 145 #[.int .i64 n, .int .i64 (bs : Int)] w fun e w' => e = .returned (.string (S (beN bs n))) /\ w.grownBy w' none := by
 go_enter Tryz.func145, Tryz.ntmps145
 go_wp2
 go_loopw [0, 5, 6] (fun m s i wr => ∃ k : Nat, k <= bs /\ i = .int .i64 k /\ m = .int .i64 (shN k n) /\ s = .string (S (beN k n)) /\ w.grownBy wr none) (fun _ _ i _ => bs - (intOf i).toNat)
 case atStart => exact ⟨0, by omega, rfl, rfl, rfl, grownBy_refl _ _⟩
 case round =>
  obtain ⟨k, hk, rfl, rfl, rfl, gk⟩ := hrel
  by_cases hlt : k < bs
  ·obtain ⟨s0, s1⟩ := shN_bd k n h0 h1
   have E : Hid (#[.int .u8 (shN k n % 256)] = (([topB k n]).map by8).toArray) := by
    show _ = _
    simp only [List.map_cons, List.map_nil]
    rw [topB_by k n s0]
   have hst := run_str _ _ _ _ (own_new wr [topB k n] #[.int .u8 (shN k n % 256)] E.out (by simp))
   simp only [List.length_cons, List.length_nil] at hst
   have hap : S [topB k n] ++ S (beN k n) = S (beN (k + 1) n) := by rw [S_app, beN_front]; rfl
   have z1 : (S [topB k n]).size = 1 := rfl
   have z2 : (S (beN k n)).size = k := by rw [S_size, beN_len]
   go_wp2
   go_roundw
   case rel => exact ⟨k + 1, by omega, by go_num, rfl, rfl, grownBy_alloc' gk _⟩
   case measure => simp [intOf]; omega
  ·obtain rfl : k = bs := by omega
   go_wp2
   go_ret
   exact ⟨rfl, gk⟩
def byteAt (l : List UInt8) (k : Nat) : Int := ((l.getD k 0).toNat : Int)
def rdN (l : List UInt8) (at0 : Nat) : Nat -> Int
 | 0 => 0
 | k + 1 => rdN l at0 k * 256 + byteAt l (at0 + k)
theorem byteAt_bd (l : List UInt8) (k : Nat) : 0 <= byteAt l k /\ byteAt l k <= 255 := by
 unfold byteAt; have := (l.getD k 0).toNat_lt; omega
theorem rdN_bd (l : List UInt8) (a k : Nat) (hk : k <= 4) : 0 <= rdN l a k /\ rdN l a k <= 4294967295 := by
 have h0 := byteAt_bd l a
 have h1 := byteAt_bd l (a + 1)
 have h2 := byteAt_bd l (a + 2)
 have h3 := byteAt_bd l (a + 3)
 match k, hk with
 | 0, _ => simp only [rdN]; omega
 | 1, _ => simp only [rdN, Nat.add_zero]; omega
 | 2, _ => simp only [rdN, Nat.add_zero]; omega
 | 3, _ => simp only [rdN, Nat.add_zero]; omega
 | 4, _ => simp only [rdN, Nat.add_zero]; omega
theorem byteAt_drop (l : List UInt8) (a : Nat) : byteAt l a = b1 (l.drop a) := by
 unfold byteAt
 by_cases h : a < l.length
 ·rw [List.drop_eq_getElem_cons h, List.getD_eq_getElem?_getD, List.getElem?_eq_getElem h]; rfl
 ·rw [List.drop_of_length_le (by omega), List.getD_eq_getElem?_getD, List.getElem?_eq_none (by omega)]; rfl
theorem t1_drop (l : List UInt8) (a : Nat) : t1 (l.drop a) = l.drop (a + 1) := by rw [t1_eq, List.drop_drop]
theorem rdN1 (l : List UInt8) (a : Nat) : rdN l a 1 = b1 (l.drop a) := by simp only [rdN, Nat.add_zero]; rw [byteAt_drop]; omega
theorem rdN2 (l : List UInt8) (a : Nat) : rdN l a 2 = b2 (l.drop a) := by
 simp only [rdN, Nat.add_zero]; unfold b2; rw [t1_drop, byteAt_drop, byteAt_drop]; omega
theorem rdN4 (l : List UInt8) (a : Nat) : rdN l a 4 = (b4 (l.drop a) : Int) := by
 have h1 := b2_bd (l.drop a)
 have h2 := b2_bd (l.drop (a + 2))
 have e : b4 (l.drop a) = (b2 (l.drop a) * 65536 + b2 (l.drop (a + 2))).toNat := by unfold b4; rw [t1_drop, t1_drop]
 rw [e, Int.toNat_of_nonneg (by omega), <- rdN2, <- rdN2]
 simp only [rdN, Nat.add_zero]
 rw [show a + 2 + 1 = a + 3 by omega]
 omega
theorem refRead_any (l : List UInt8) (a bs : Nat) (w : World) (hl : l.length <= 1000000000) (ha : a <= 1000000000) (hb : bs <= 4) :
  Calls Tryz.prog 151 #[.string (S l), .int .i64 (a : Int), .int .i64 (bs : Int)] w fun e w' => e = .returned (.int .i64 (rdN l a bs)) /\ w' = w := by
 have hz := S_size l
 go_enter Tryz.func151, Tryz.ntmps151
 go_wp2
 go_loop [7, 8] (fun t i => ∃ k : Nat, k <= bs /\ i = .int .i64 k /\ t = .int .i64 (rdN l a k)) (fun _ i => bs - (intOf i).toNat)
 case atStart => exact ⟨0, by omega, rfl, rfl⟩
 case round =>
  obtain ⟨k, hk, rfl, rfl⟩ := hrel
  by_cases hlt : k < bs
  ·obtain ⟨r0, r1⟩ := rdN_bd l a k (by omega)
   have hs : Hid (rdN l a (k + 1) = rdN l a k * 256 + byteAt l (a + k)) := rfl
   generalize rdN l a k = R at *
   by_cases hin : a + k < l.length
   ·have hks : a + k < (S l).size := by rw [hz]; exact hin
    have hbt : Hid (byteAt l (a + k) = (((S l)[a + k]).toNat : Int)) := by
     show _ = _
     unfold byteAt
     rw [List.getD_eq_getElem?_getD, List.getElem?_eq_getElem hin]; rfl
    have hc := ((S l)[a + k]).toNat_lt
    have hin' : (a : Int) + (k : Int) < (l.length : Int) := by omega
    go_wp2
    exact ⟨⟨k + 1, by omega, by go_num, by rw [hs.out, hbt.out]⟩, by simp [intOf]; omega⟩
   ·have hbt : Hid (byteAt l (a + k) = 0) := by
     show _ = _
     unfold byteAt
     rw [List.getD_eq_getElem?_getD, List.getElem?_eq_none (by omega)]; rfl
    go_wp2
    go_round
    case rel => exact ⟨k + 1, by omega, by go_num, by rw [hs.out, hbt.out, Int.add_zero]⟩
    case measure => simp [intOf]; omega
  ·obtain rfl : k = bs := by omega
   go_wp2
   go_ret
   exact ⟨rfl, rfl⟩
end Go.Proofs.YtammnaafdhhjaaaGreat
