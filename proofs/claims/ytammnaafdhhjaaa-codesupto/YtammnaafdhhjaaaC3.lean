/- Ytammnaafdhhjaaa: lists that were lent read as they were. -/
import Derived.Test.YtammnaafdhhjaaaJC30
import Derived.Test.YtammnaafdhhjaaaJC33
namespace Go.Proofs.Ytammnaafdhhjaaa
open Go.RowKit

set_option maxHeartbeats 4000000 in
set_option maxRecDepth 1000000 in
theorem still_round (is : List It) (n g off c g' off' c' : Nat) (w : World) (Q0 : Exit → Act → World → Prop) (hL : is.length = n) (hmx : n ≤ 2000000)
    (hc : ∀ j u, (is.flatMap It.cells)[j]? = some u → w.cell? ⟨g, off + j, none⟩ = some u) (hc' : ∀ j u, (is.flatMap It.cells)[j]? = some u → w.cell? ⟨g', off' + j, none⟩ = some u)
    (hexit : ∀ a' w'', StillI w n g off c g' off' c' a' w'' → Q0 (.exit 0) a' w'') (a : Act) (wr : World) (hI : StillI w n g off c g' off' c' a wr) :
    Code.wp Try.prog ((Try.f12.body.bind firstLoop).getD .skip) (Exit.then (fun a' w'' => StillI w n g off c g' off' c' a' w'' ∧ stillMu n a' w'' < stillMu n a wr) Q0) a wr := by
  unfold StillI at hI
  obtain ⟨u4, hI⟩ := hI
  obtain ⟨u5, hI⟩ := hI
  obtain ⟨u6, hI⟩ := hI
  obtain ⟨u7, hI⟩ := hI
  obtain ⟨u8, hI⟩ := hI
  obtain ⟨u9, hI⟩ := hI
  obtain ⟨u10, hI⟩ := hI
  obtain ⟨u11, hI⟩ := hI
  obtain ⟨u12, hI⟩ := hI
  obtain ⟨u13, hI⟩ := hI
  obtain ⟨u14, hI⟩ := hI
  obtain ⟨u15, hI⟩ := hI
  obtain ⟨u16, hI⟩ := hI
  obtain ⟨u17, hI⟩ := hI
  obtain ⟨u18, hI⟩ := hI
  obtain ⟨u19, hI⟩ := hI
  obtain ⟨u20, hI⟩ := hI
  obtain ⟨u21, hI⟩ := hI
  obtain ⟨u22, hI⟩ := hI
  obtain ⟨u23, hI⟩ := hI
  obtain ⟨u24, hI⟩ := hI
  obtain ⟨u25, hI⟩ := hI
  obtain ⟨u26, hI⟩ := hI
  obtain ⟨u27, hI⟩ := hI
  obtain ⟨u28, hI⟩ := hI
  obtain ⟨u29, hI⟩ := hI
  obtain ⟨u30, hI⟩ := hI
  obtain ⟨u31, hI⟩ := hI
  obtain ⟨u32, hI⟩ := hI
  obtain ⟨u33, hI⟩ := hI
  obtain ⟨u34, hI⟩ := hI
  obtain ⟨u35, hI⟩ := hI
  obtain ⟨u36, hI⟩ := hI
  obtain ⟨u37, hI⟩ := hI
  obtain ⟨u38, hI⟩ := hI
  obtain ⟨u39, hI⟩ := hI
  obtain ⟨u40, hI⟩ := hI
  obtain ⟨u41, hI⟩ := hI
  obtain ⟨u42, hI⟩ := hI
  obtain ⟨u43, hI⟩ := hI
  obtain ⟨u44, hI⟩ := hI
  obtain ⟨u45, hI⟩ := hI
  obtain ⟨u46, hI⟩ := hI
  obtain ⟨u47, hI⟩ := hI
  obtain ⟨u48, hI⟩ := hI
  obtain ⟨u49, hI⟩ := hI
  obtain ⟨u50, hI⟩ := hI
  obtain ⟨u51, hI⟩ := hI
  obtain ⟨u52, hI⟩ := hI
  obtain ⟨u53, hI⟩ := hI
  obtain ⟨u54, hI⟩ := hI
  obtain ⟨u55, hI⟩ := hI
  obtain ⟨u56, hI⟩ := hI
  obtain ⟨u57, hI⟩ := hI
  obtain ⟨u58, hI⟩ := hI
  obtain ⟨u59, hI⟩ := hI
  obtain ⟨u60, hI⟩ := hI
  obtain ⟨u61, hI⟩ := hI
  obtain ⟨u62, hI⟩ := hI
  obtain ⟨u63, hI⟩ := hI
  obtain ⟨u64, hI⟩ := hI
  obtain ⟨u65, hI⟩ := hI
  obtain ⟨u66, hI⟩ := hI
  obtain ⟨u67, hI⟩ := hI
  obtain ⟨u68, hI⟩ := hI
  obtain ⟨u69, hI⟩ := hI
  obtain ⟨u70, hI⟩ := hI
  obtain ⟨u71, hI⟩ := hI
  obtain ⟨u72, hI⟩ := hI
  obtain ⟨u73, hI⟩ := hI
  obtain ⟨u74, hI⟩ := hI
  obtain ⟨⟨k, hk, rfl, gk⟩, rfl⟩ := hI
  by_cases hlt : k < n
  · have hkl : k < is.length := by rw [hL]; exact hlt
    obtain ⟨i, hi⟩ : ∃ i, is[k] = i := ⟨_, rfl⟩
    have d : ∀ j (hj : j < 4) u, i.cells[j]? = some u → wr.cell? ⟨g, off + k * 4 + j, none⟩ = some u := fun j hj u hu => by
      have := hc (4 * k + j) u (by rw [flat_at4 is k j hkl hj, hi]; exact hu)
      rw [show off + (4 * k + j) = off + k * 4 + j by omega] at this
      exact gk.cell this (by simp)
    have d' : ∀ j (hj : j < 4) u, i.cells[j]? = some u → wr.cell? ⟨g', off' + k * 4 + j, none⟩ = some u := fun j hj u hu => by
      have := hc' (4 * k + j) u (by rw [flat_at4 is k j hkl hj, hi]; exact hu)
      rw [show off' + (4 * k + j) = off' + k * 4 + j by omega] at this
      exact gk.cell this (by simp)
    have d0 := d 0 (by omega) _ rfl
    have d1 := d 1 (by omega) _ rfl
    have d2 := d 2 (by omega) _ rfl
    have d3 := d 3 (by omega) _ rfl
    have e0 := d' 0 (by omega) _ rfl
    have e1 := d' 1 (by omega) _ rfl
    have e2 := d' 2 (by omega) _ rfl
    have e3 := d' 3 (by omega) _ rfl
    rw [Nat.add_zero] at d0 e0
    rcases order_two i.pl with f1 | f1 <;> rcases order_two i.sp with f2 | f2
    · exact still_tt n g off c g' off' c' k i w wr Q0 u4 u6 u7 u8 u9 u10 u11 u12 u13 u14 u15 u16 u17 u18 u19 u20 u21 u22 u23 u24 u25 u26 u27 u28 u29 u30 u31 u32 u33 u34 u35 u36 u37 u38 u39 u40 u41 u42 u43 u44 u45 u46 u47 u48 u49 u50 u51 u52 u53 u54 u55 u56 u57 u58 u59 u60 u61 u62 u63 u64 u65 u66 u67 u68 u69 u70 u71 u72 u73 u74 hmx hlt gk d0 d1 d2 d3 e0 e1 e2 e3 f1 f2
    · exact still_tf n g off c g' off' c' k i w wr Q0 u4 u6 u7 u8 u9 u10 u11 u12 u13 u14 u15 u16 u17 u18 u19 u20 u21 u22 u23 u24 u25 u26 u27 u28 u29 u30 u31 u32 u33 u34 u35 u36 u37 u38 u39 u40 u41 u42 u43 u44 u45 u46 u47 u48 u49 u50 u51 u52 u53 u54 u55 u56 u57 u58 u59 u60 u61 u62 u63 u64 u65 u66 u67 u68 u69 u70 u71 u72 u73 u74 hmx hlt gk d0 d1 d2 d3 e0 e1 e2 e3 f1 f2
    · exact still_ft n g off c g' off' c' k i w wr Q0 u4 u6 u7 u8 u9 u10 u11 u12 u13 u14 u15 u16 u17 u18 u19 u20 u21 u22 u23 u24 u25 u26 u27 u28 u29 u30 u31 u32 u33 u34 u35 u36 u37 u38 u39 u40 u41 u42 u43 u44 u45 u46 u47 u48 u49 u50 u51 u52 u53 u54 u55 u56 u57 u58 u59 u60 u61 u62 u63 u64 u65 u66 u67 u68 u69 u70 u71 u72 u73 u74 hmx hlt gk d0 d1 d2 d3 e0 e1 e2 e3 f1 f2
    · exact still_ff n g off c g' off' c' k i w wr Q0 u4 u6 u7 u8 u9 u10 u11 u12 u13 u14 u15 u16 u17 u18 u19 u20 u21 u22 u23 u24 u25 u26 u27 u28 u29 u30 u31 u32 u33 u34 u35 u36 u37 u38 u39 u40 u41 u42 u43 u44 u45 u46 u47 u48 u49 u50 u51 u52 u53 u54 u55 u56 u57 u58 u59 u60 u61 u62 u63 u64 u65 u66 u67 u68 u69 u70 u71 u72 u73 u74 hmx hlt gk d0 d1 d2 d3 e0 e1 e2 e3 f1 f2
  · conv => arg 2; whnf
    have y1 : ¬ (k : Int) < (n : Int) := by omega
    clear hc hc'
    go_wp2
    unfold StillI
    exact ⟨_, _, _, _, _, _, _, _, _, _, _, _, _, _, _, _, _, _, _, _, _, _, _, _, _, _, _, _, _, _, _, _, _, _, _, _, _, _, _, _, _, _, _, _, _, _, _, _, _, _, _, _, _, _, _, _, _, _, _, _, _, _, _, _, _, _, _, _, _, _, _, ⟨k, hk, rfl, gk⟩, rfl⟩

set_option maxHeartbeats 4000000 in
set_option maxRecDepth 1000000 in
theorem still_loop (is : List It) (n g off c g' off' c' : Nat) (w wr : World) (Q0 : Exit → Act → World → Prop) (hL : is.length = n) (hmx : n ≤ 2000000)
    (hc : ∀ j u, (is.flatMap It.cells)[j]? = some u → w.cell? ⟨g, off + j, none⟩ = some u) (hc' : ∀ j u, (is.flatMap It.cells)[j]? = some u → w.cell? ⟨g', off' + j, none⟩ = some u)
    (u4 u5 u6 u7 u8 u9 u10 u11 u12 u13 u14 u15 u16 u17 u18 u19 u20 u21 u22 u23 u24 u25 u26 u27 u28 u29 u30 u31 u32 u33 u34 u35 u36 u37 u38 u39 u40 u41 u42 u43 u44 u45 u46 u47 u48 u49 u50 u51 u52 u53 u54 u55 u56 u57 u58 u59 u60 u61 u62 u63 u64 u65 u66 u67 u68 u69 u70 u71 u72 u73 u74 : Value) (hrel : ∃ k : Nat, k ≤ n ∧ u5 = .int .i64 k ∧ w.grownBy wr none)
    (hexit : ∀ a' w'', StillI w n g off c g' off' c' a' w'' → Q0 (.exit 0) a' w'') :
    Code.wp Try.prog (Code.loop ((Try.f12.body.bind firstLoop).getD .skip)) Q0 ⟨#[.slice (some ⟨g, off, none⟩) n c, .slice (some ⟨g', off', none⟩) n c', undef, undef, u4, u5, u6, u7, u8, u9, u10, u11, u12, u13, u14, u15, u16, u17, u18, u19, u20, u21, u22, u23, u24, u25, u26, u27, u28, u29, u30, u31, u32, u33, u34, u35, u36, u37, u38, u39, u40, u41, u42, u43, u44, u45, u46, u47, u48, u49, u50, u51, u52, u53, u54, u55, u56, u57, u58, u59, u60, u61, u62, u63, u64, u65, u66, u67, u68, u69, u70, u71, u72, u73, u74], []⟩ wr := by
  refine wp_loop (StillI w n g off c g' off' c') (stillMu n) ?_ (fun a w'' hI => still_round is n g off c g' off' c' w Q0 hL hmx hc hc' hexit a w'' hI)
  unfold StillI
  exact ⟨u4, u5, u6, u7, u8, u9, u10, u11, u12, u13, u14, u15, u16, u17, u18, u19, u20, u21, u22, u23, u24, u25, u26, u27, u28, u29, u30, u31, u32, u33, u34, u35, u36, u37, u38, u39, u40, u41, u42, u43, u44, u45, u46, u47, u48, u49, u50, u51, u52, u53, u54, u55, u56, u57, u58, u59, u60, u61, u62, u63, u64, u65, u66, u67, u68, u69, u70, u71, u72, u73, u74, hrel, rfl⟩

set_option maxHeartbeats 4000000 in
set_option maxRecDepth 1000000 in
theorem stillItems_x (is : List It) (g off c g' off' c' : Nat) (w : World) (hmx : is.length ≤ 2000000)
    (hc : ∀ j u, (is.flatMap It.cells)[j]? = some u → w.cell? ⟨g, off + j, none⟩ = some u) (hc' : ∀ j u, (is.flatMap It.cells)[j]? = some u → w.cell? ⟨g', off' + j, none⟩ = some u) :
    Calls Try.prog 12 #[.slice (some ⟨g, off, none⟩) is.length c, .slice (some ⟨g', off', none⟩) is.length c'] w fun e w' => e = .returned (.bool true) ∧ w.grownBy w' none := by
  obtain ⟨n, hL⟩ : ∃ n, is.length = n := ⟨_, rfl⟩
  rw [hL] at hmx ⊢
  have HL : Hid (is.length = n) := hL
  clear hL
  have HC := Hid.mk' hc
  have HC' := Hid.mk' hc'
  clear hc hc'
  go_enter Try.func12, Try.ntmps12
  go_wp2
  refine still_loop is n g off c g' off' c' w _ _ HL.out hmx HC.out HC'.out _ _ _ _ _ _ _ _ _ _ _ _ _ _ _ _ _ _ _ _ _ _ _ _ _ _ _ _ _ _ _ _ _ _ _ _ _ _ _ _ _ _ _ _ _ _ _ _ _ _ _ _ _ _ _ _ _ _ _ _ _ _ _ _ _ _ _ _ _ _ _ ?_ ?_
  · exact ⟨0, by omega, rfl, grownBy_refl _ _⟩
  · intro a' w' hI
    unfold StillI at hI
    obtain ⟨u4, hI⟩ := hI
    obtain ⟨u5, hI⟩ := hI
    obtain ⟨u6, hI⟩ := hI
    obtain ⟨u7, hI⟩ := hI
    obtain ⟨u8, hI⟩ := hI
    obtain ⟨u9, hI⟩ := hI
    obtain ⟨u10, hI⟩ := hI
    obtain ⟨u11, hI⟩ := hI
    obtain ⟨u12, hI⟩ := hI
    obtain ⟨u13, hI⟩ := hI
    obtain ⟨u14, hI⟩ := hI
    obtain ⟨u15, hI⟩ := hI
    obtain ⟨u16, hI⟩ := hI
    obtain ⟨u17, hI⟩ := hI
    obtain ⟨u18, hI⟩ := hI
    obtain ⟨u19, hI⟩ := hI
    obtain ⟨u20, hI⟩ := hI
    obtain ⟨u21, hI⟩ := hI
    obtain ⟨u22, hI⟩ := hI
    obtain ⟨u23, hI⟩ := hI
    obtain ⟨u24, hI⟩ := hI
    obtain ⟨u25, hI⟩ := hI
    obtain ⟨u26, hI⟩ := hI
    obtain ⟨u27, hI⟩ := hI
    obtain ⟨u28, hI⟩ := hI
    obtain ⟨u29, hI⟩ := hI
    obtain ⟨u30, hI⟩ := hI
    obtain ⟨u31, hI⟩ := hI
    obtain ⟨u32, hI⟩ := hI
    obtain ⟨u33, hI⟩ := hI
    obtain ⟨u34, hI⟩ := hI
    obtain ⟨u35, hI⟩ := hI
    obtain ⟨u36, hI⟩ := hI
    obtain ⟨u37, hI⟩ := hI
    obtain ⟨u38, hI⟩ := hI
    obtain ⟨u39, hI⟩ := hI
    obtain ⟨u40, hI⟩ := hI
    obtain ⟨u41, hI⟩ := hI
    obtain ⟨u42, hI⟩ := hI
    obtain ⟨u43, hI⟩ := hI
    obtain ⟨u44, hI⟩ := hI
    obtain ⟨u45, hI⟩ := hI
    obtain ⟨u46, hI⟩ := hI
    obtain ⟨u47, hI⟩ := hI
    obtain ⟨u48, hI⟩ := hI
    obtain ⟨u49, hI⟩ := hI
    obtain ⟨u50, hI⟩ := hI
    obtain ⟨u51, hI⟩ := hI
    obtain ⟨u52, hI⟩ := hI
    obtain ⟨u53, hI⟩ := hI
    obtain ⟨u54, hI⟩ := hI
    obtain ⟨u55, hI⟩ := hI
    obtain ⟨u56, hI⟩ := hI
    obtain ⟨u57, hI⟩ := hI
    obtain ⟨u58, hI⟩ := hI
    obtain ⟨u59, hI⟩ := hI
    obtain ⟨u60, hI⟩ := hI
    obtain ⟨u61, hI⟩ := hI
    obtain ⟨u62, hI⟩ := hI
    obtain ⟨u63, hI⟩ := hI
    obtain ⟨u64, hI⟩ := hI
    obtain ⟨u65, hI⟩ := hI
    obtain ⟨u66, hI⟩ := hI
    obtain ⟨u67, hI⟩ := hI
    obtain ⟨u68, hI⟩ := hI
    obtain ⟨u69, hI⟩ := hI
    obtain ⟨u70, hI⟩ := hI
    obtain ⟨u71, hI⟩ := hI
    obtain ⟨u72, hI⟩ := hI
    obtain ⟨u73, hI⟩ := hI
    obtain ⟨u74, hI⟩ := hI
    obtain ⟨⟨k, hk, rfl, gk⟩, rfl⟩ := hI
    go_wp2
    go_ret
    exact ⟨rfl, gk⟩

set_option maxHeartbeats 400000 in
theorem stillItems_any (va vb : Value) (is : List It) (w : World) (ha : LiesI w va is) (hb : LiesI w vb is) (hmx : is.length ≤ 2000000) :
    Calls Try.prog 12 #[va, vb] w fun e w' => e = .returned (.bool true) ∧ w.grownBy w' none := by
  obtain ⟨a, c, rfl, hx⟩ := ha
  obtain ⟨a', c', rfl, hx'⟩ := hb
  by_cases hp : 0 < is.length
  · obtain ⟨g, off, rfl, hc⟩ := hx hp
    obtain ⟨g', off', rfl, hc'⟩ := hx' hp
    exact stillItems_x is g off c g' off' c' w hmx hc hc'
  · have e0 : is = [] := List.eq_nil_of_length_eq_zero (by omega)
    subst e0
    clear hx hx' hp hmx
    show Calls Try.prog 12 #[.slice a 0 c, .slice a' 0 c'] w _
    go_enter Try.func12, Try.ntmps12
    go_wp2
    refine wp_loop_rounds 1 ?_
    rw [rounds_succ]
    go_wp2
    go_ret
    exact ⟨rfl, grownBy_refl _ _⟩
end Go.Proofs.Ytammnaafdhhjaaa
