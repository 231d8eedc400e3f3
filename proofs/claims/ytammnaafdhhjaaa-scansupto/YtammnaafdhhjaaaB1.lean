/- Ytammnaafdhhjaaa: pick, works. -/
import Derived.Test.YtammnaafdhhjaaaS2
import Derived.Test.YtammnaafdhhjaaaJM1
import Derived.BigRegion
namespace Go.Proofs.Ytammnaafdhhjaaa
open Go.RowKit

def pickI (c n : Int) : Int := if c < 0 then (-(c + 1)) % n else c % n
theorem pickI_bd (c n : Int) (h : 0 < n) : 0 ≤ pickI c n ∧ pickI c n < n := by
  unfold pickI
  split
  · exact ⟨Int.emod_nonneg _ (by omega), Int.emod_lt_of_pos _ h⟩
  · exact ⟨Int.emod_nonneg _ (by omega), Int.emod_lt_of_pos _ h⟩

set_option maxHeartbeats 400000 in
theorem pick_any (c n : Int) (w : World) (h0 : -9223372036854775808 ≤ c) (h1 : c ≤ 9223372036854775807) (h2 : 0 < n) (h3 : n ≤ 1000000) :
    Calls Try.prog 24 #[.int .i64 c, .int .i64 n] w fun e w' => e = .returned (.int .i64 (pickI c n)) ∧ w' = w := by
  by_cases hc : c < 0
  · have E : Hid (-(c + 1).tmod n = pickI c n) := by
      show _ = _
      rw [pickI, if_pos hc, ← Int.neg_tmod, Int.tmod_eq_emod_of_nonneg (by omega)]
    go_enter Try.func24, Try.ntmps24
    go_wp2
    go_ret
    exact ⟨ret_int E.out, rfl⟩
  · have E : Hid (c % n = pickI c n) := by
      show _ = _
      rw [pickI, if_neg hc]
    go_enter Try.func24, Try.ntmps24
    go_wp2
    go_ret
    exact ⟨ret_int E.out, rfl⟩

theorem enc_tick : enc ⟨3, 0, it0, mk0, [], []⟩ = [3, 0, 35] := by decide +kernel
theorem enc_mint : enc ⟨1, 0, ⟨0, 1, 3212836864, 1073741824⟩, mk0, [], []⟩ = [1, 0, 0, 1, 191, 128, 0, 0, 64, 0, 0, 0, 118, 197] := by decide +kernel

theorem lies_nil (w : World) : LiesI w (.slice none 0 0) [] := ⟨none, 0, rfl, by simp⟩
theorem liesE_nil (w : World) : LiesE w (.slice none 0 0) [] := ⟨none, 0, rfl, by simp⟩
set_option maxHeartbeats 400000 in
theorem encode_tick (w : World) : Calls Try.prog 11 #[rv 3 0 it0 mk0 (.slice none 0 0) (.slice none 0 0)] w fun e w' => e = .returned (.tuple #[.string (S [3, 0, 35]), .int .i64 0]) ∧ w.grownBy w' none := by
  have := encode_yes ⟨3, 0, it0, mk0, [], []⟩ (.slice none 0 0) (.slice none 0 0) w (lies_nil w) (liesE_nil w) (by decide +kernel) ⟨it0_wf, by simp, by simp⟩
  rw [enc_tick] at this
  exact this
theorem encode_mint (w : World) : Calls Try.prog 11 #[rv 1 0 ⟨0, 1, 3212836864, 1073741824⟩ mk0 (.slice none 0 0) (.slice none 0 0)] w fun e w' => e = .returned (.tuple #[.string (S [1, 0, 0, 1, 191, 128, 0, 0, 64, 0, 0, 0, 118, 197]), .int .i64 0]) ∧ w.grownBy w' none := by
  have := encode_yes ⟨1, 0, ⟨0, 1, 3212836864, 1073741824⟩, mk0, [], []⟩ (.slice none 0 0) (.slice none 0 0) w (lies_nil w) (liesE_nil w) (by decide +kernel) ⟨⟨by decide, by decide⟩, by simp, by simp⟩
  rw [enc_mint] at this
  exact this

/-- Bytes that were just laid. -/
theorem own_new (W : World) (l : List UInt8) (vs : Array Value) (h : vs = (l.map by8).toArray) (hl : l.length ≤ 1000) : Own W.heap.size (W.alloc (.cells vs 5)) (.slice (some ⟨W.heap.size, 0, none⟩) l.length l.length) l := by
  subst h
  exact ⟨by simp, .inr ⟨W.heap.size, l.length, _, rfl, Nat.le_refl _, heap_alloc_new W _, Nat.le_refl _, by unfold maxLen; omega, by simp, by simp [List.take_of_length_le]⟩⟩
theorem run_str_new (W : World) (l : List UInt8) (vs : Array Value) (h : vs = (l.map by8).toArray) (hl : l.length ≤ 1000) : (convert 58 9 (.slice (some ⟨W.heap.size, 0, none⟩) l.length l.length)).run Try.prog (W.alloc (.cells vs 5)).drew = .ok (.string (S l)) (W.alloc (.cells vs 5)).drew :=
  run_str W.heap.size (W.alloc (.cells vs 5)).drew _ l (own_new W l vs h hl)

set_option maxHeartbeats 800000 in
set_option maxRecDepth 100000 in
theorem works_any (w : World) : Calls Try.prog 21 #[] w fun e w' => e = .returned (.bool true) ∧ w.grownBy w' none := by
  obtain ⟨A, hA⟩ : ∃ A, S [3, 0, 35] = A := ⟨_, rfl⟩
  obtain ⟨U, hU⟩ : ∃ U, S [1, 0, 0, 1, 191, 128, 0, 0, 64, 0, 0, 0] = U := ⟨_, rfl⟩
  obtain ⟨T, hT⟩ : ∃ T, S [1, 0, 0, 1, 191, 128, 0, 0, 64, 0, 0, 0, 118, 197] = T := ⟨_, rfl⟩
  have t1 : T.size = 14 := by rw [← hT]; rfl
  have t2 : T.extract 0 12 = U := by rw [← hT, ← hU, S_take]; rfl
  have HA := Hid.mk' hA
  have HU := Hid.mk' hU
  have HT := Hid.mk' hT
  clear hA hU hT
  go_enter Try.func21, Try.ntmps21
  go_wp2_with fail
  refine Calls.mono (encode_tick _) ?_
  rintro e w1 ⟨rfl, g1⟩
  rw [HA.out]
  go_wp2_with fail
  refine Calls.mono (encode_mint _) ?_
  rintro e w2 ⟨rfl, g2⟩
  rw [HT.out]
  have k3 := run_str_new w2 [3, 0, 35] #[.int .u8 3, .int .u8 0, .int .u8 35] rfl (by decide)
  have k12 := run_str_new (w2.alloc (.cells #[.int .u8 3, .int .u8 0, .int .u8 35] 5)) [1, 0, 0, 1, 191, 128, 0, 0, 64, 0, 0, 0] #[.int .u8 1, .int .u8 0, .int .u8 0, .int .u8 1, .int .u8 191, .int .u8 128, .int .u8 0, .int .u8 0, .int .u8 64, .int .u8 0, .int .u8 0, .int .u8 0] rfl (by decide)
  rw [HA.out] at k3
  rw [HU.out] at k12
  simp only [World.size_alloc, List.length_cons, List.length_nil] at k3 k12
  go_wp2_with fail
  go_region
  go_wp2
  go_ret
  exact ⟨rfl, grownBy_drew (grownBy_alloc' (grownBy_alloc' (g1.trans g2) _) _)⟩
end Go.Proofs.Ytammnaafdhhjaaa
