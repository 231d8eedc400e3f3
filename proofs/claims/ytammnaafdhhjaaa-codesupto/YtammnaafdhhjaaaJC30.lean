import Derived.Test.YtammnaafdhhjaaaS1
import Derived.BigQuiet
/- Ytammnaafdhhjaaa: the body of the loop over lists that were lent. -/
namespace Go.Proofs.Ytammnaafdhhjaaa
open Go.RowKit

theorem order_two (x : Nat) : FloatKind.f32.format.order x x = some .eq ∨ FloatKind.f32.format.order x x = none := by
  simp only [Ieee.Format.order]
  generalize Ieee.Format.read FloatKind.f32.format x = d
  cases d with
  | nan s f => exact .inr rfl
  | infinity s => left; simp [Ieee.Datum.order]
  | number s m e => left; simp [Ieee.Datum.order]

def firstLoop : Code → Option Code
  | .loop c => some c
  | .seq a b => match firstLoop a with
    | some c => some c
    | none => firstLoop b
  | .block _ c => firstLoop c
  | .scope c => firstLoop c
  | .cond _ a b => match firstLoop a with
    | some c => some c
    | none => firstLoop b
  | _ => none

set_option maxRecDepth 1000000 in
def StillI (w : World) (n g off c g' off' c' : Nat) (a : Act) (w' : World) : Prop :=
  ∃ u4 u5 u6 u7 u8 u9 u10 u11 u12 u13 u14 u15 u16 u17 u18 u19 u20 u21 u22 u23 u24 u25 u26 u27 u28 u29 u30 u31 u32 u33 u34 u35 u36 u37 u38 u39 u40 u41 u42 u43 u44 u45 u46 u47 u48 u49 u50 u51 u52 u53 u54 u55 u56 u57 u58 u59 u60 u61 u62 u63 u64 u65 u66 u67 u68 u69 u70 u71 u72 u73 u74 : Value, (∃ k : Nat, k ≤ n ∧ u5 = .int .i64 k ∧ w.grownBy w' none) ∧ a = ⟨#[.slice (some ⟨g, off, none⟩) n c, .slice (some ⟨g', off', none⟩) n c', undef, undef, u4, u5, u6, u7, u8, u9, u10, u11, u12, u13, u14, u15, u16, u17, u18, u19, u20, u21, u22, u23, u24, u25, u26, u27, u28, u29, u30, u31, u32, u33, u34, u35, u36, u37, u38, u39, u40, u41, u42, u43, u44, u45, u46, u47, u48, u49, u50, u51, u52, u53, u54, u55, u56, u57, u58, u59, u60, u61, u62, u63, u64, u65, u66, u67, u68, u69, u70, u71, u72, u73, u74], []⟩
def stillMu (n : Nat) (a : Act) (_ : World) : Nat := n - (intOf (a.tmps.getD 5 undef)).toNat
end Go.Proofs.Ytammnaafdhhjaaa

/- Ytammnaafdhhjaaa: a round over items that were lent: place equals itself, speed does. -/
namespace Go.Proofs.Ytammnaafdhhjaaa
open Go.RowKit

set_option maxHeartbeats 20000000 in
set_option maxRecDepth 1000000 in
theorem still_tt (n g off c g' off' c' k : Nat) (i : It) (w wr : World) (Q0 : Exit → Act → World → Prop) (u4 u6 u7 u8 u9 u10 u11 u12 u13 u14 u15 u16 u17 u18 u19 u20 u21 u22 u23 u24 u25 u26 u27 u28 u29 u30 u31 u32 u33 u34 u35 u36 u37 u38 u39 u40 u41 u42 u43 u44 u45 u46 u47 u48 u49 u50 u51 u52 u53 u54 u55 u56 u57 u58 u59 u60 u61 u62 u63 u64 u65 u66 u67 u68 u69 u70 u71 u72 u73 u74 : Value)
    (hmx : n ≤ 2000000) (hlt : k < n) (gk : w.grownBy wr none)
    (d0 : wr.cell? ⟨g, off + k * 4, none⟩ = some (.int .i64 i.sh)) (d1 : wr.cell? ⟨g, off + k * 4 + 1, none⟩ = some (.int .i64 i.nu)) (d2 : wr.cell? ⟨g, off + k * 4 + 2, none⟩ = some (.float .f32 i.pl)) (d3 : wr.cell? ⟨g, off + k * 4 + 3, none⟩ = some (.float .f32 i.sp))
    (e0 : wr.cell? ⟨g', off' + k * 4, none⟩ = some (.int .i64 i.sh)) (e1 : wr.cell? ⟨g', off' + k * 4 + 1, none⟩ = some (.int .i64 i.nu)) (e2 : wr.cell? ⟨g', off' + k * 4 + 2, none⟩ = some (.float .f32 i.pl)) (e3 : wr.cell? ⟨g', off' + k * 4 + 3, none⟩ = some (.float .f32 i.sp))
    (f1 : FloatKind.f32.format.order i.pl i.pl = some .eq) (f2 : FloatKind.f32.format.order i.sp i.sp = some .eq) :
    Code.wp Try.prog ((Try.f12.body.bind firstLoop).getD .skip) (Exit.then (fun a' w'' => StillI w n g off c g' off' c' a' w'' ∧ stillMu n a' w'' < stillMu n ⟨#[.slice (some ⟨g, off, none⟩) n c, .slice (some ⟨g', off', none⟩) n c', undef, undef, u4, .int .i64 (k : Int), u6, u7, u8, u9, u10, u11, u12, u13, u14, u15, u16, u17, u18, u19, u20, u21, u22, u23, u24, u25, u26, u27, u28, u29, u30, u31, u32, u33, u34, u35, u36, u37, u38, u39, u40, u41, u42, u43, u44, u45, u46, u47, u48, u49, u50, u51, u52, u53, u54, u55, u56, u57, u58, u59, u60, u61, u62, u63, u64, u65, u66, u67, u68, u69, u70, u71, u72, u73, u74], []⟩ wr) Q0) ⟨#[.slice (some ⟨g, off, none⟩) n c, .slice (some ⟨g', off', none⟩) n c', undef, undef, u4, .int .i64 (k : Int), u6, u7, u8, u9, u10, u11, u12, u13, u14, u15, u16, u17, u18, u19, u20, u21, u22, u23, u24, u25, u26, u27, u28, u29, u30, u31, u32, u33, u34, u35, u36, u37, u38, u39, u40, u41, u42, u43, u44, u45, u46, u47, u48, u49, u50, u51, u52, u53, u54, u55, u56, u57, u58, u59, u60, u61, u62, u63, u64, u65, u66, u67, u68, u69, u70, u71, u72, u73, u74], []⟩ wr := by
  conv => arg 2; whnf
  have n1 : (FloatKind.f32.format.order i.pl i.pl == some Ordering.eq) = true := by rw [f1]; rfl
  have n2 : (FloatKind.f32.format.order i.sp i.sp == some Ordering.eq) = true := by rw [f2]; rfl
  have z1 : ((none : Option Ordering) != some Ordering.eq) = true := rfl
  have z2 : ((none : Option Ordering) == some Ordering.eq) = false := rfl
  have y0 : (0 : Int) ≤ (k : Int) := by omega
  have y1 : (k : Int) < (n : Int) := by omega
  go_wp2_with fail
  go_quiet (fail)
  go_wp2
  refine ⟨?_, by simp [stillMu, intOf]; omega⟩
  unfold StillI
  exact ⟨_, _, _, _, _, _, _, _, _, _, _, _, _, _, _, _, _, _, _, _, _, _, _, _, _, _, _, _, _, _, _, _, _, _, _, _, _, _, _, _, _, _, _, _, _, _, _, _, _, _, _, _, _, _, _, _, _, _, _, _, _, _, _, _, _, _, _, _, _, _, _, ⟨k + 1, by omega, by go_num, grownBy_drewN gk nq⟩, rfl⟩
end Go.Proofs.Ytammnaafdhhjaaa

/- Ytammnaafdhhjaaa: a round over items that were lent: place equals itself, speed does not. -/
namespace Go.Proofs.Ytammnaafdhhjaaa
open Go.RowKit

set_option maxHeartbeats 20000000 in
set_option maxRecDepth 1000000 in
theorem still_tf (n g off c g' off' c' k : Nat) (i : It) (w wr : World) (Q0 : Exit → Act → World → Prop) (u4 u6 u7 u8 u9 u10 u11 u12 u13 u14 u15 u16 u17 u18 u19 u20 u21 u22 u23 u24 u25 u26 u27 u28 u29 u30 u31 u32 u33 u34 u35 u36 u37 u38 u39 u40 u41 u42 u43 u44 u45 u46 u47 u48 u49 u50 u51 u52 u53 u54 u55 u56 u57 u58 u59 u60 u61 u62 u63 u64 u65 u66 u67 u68 u69 u70 u71 u72 u73 u74 : Value)
    (hmx : n ≤ 2000000) (hlt : k < n) (gk : w.grownBy wr none)
    (d0 : wr.cell? ⟨g, off + k * 4, none⟩ = some (.int .i64 i.sh)) (d1 : wr.cell? ⟨g, off + k * 4 + 1, none⟩ = some (.int .i64 i.nu)) (d2 : wr.cell? ⟨g, off + k * 4 + 2, none⟩ = some (.float .f32 i.pl)) (d3 : wr.cell? ⟨g, off + k * 4 + 3, none⟩ = some (.float .f32 i.sp))
    (e0 : wr.cell? ⟨g', off' + k * 4, none⟩ = some (.int .i64 i.sh)) (e1 : wr.cell? ⟨g', off' + k * 4 + 1, none⟩ = some (.int .i64 i.nu)) (e2 : wr.cell? ⟨g', off' + k * 4 + 2, none⟩ = some (.float .f32 i.pl)) (e3 : wr.cell? ⟨g', off' + k * 4 + 3, none⟩ = some (.float .f32 i.sp))
    (f1 : FloatKind.f32.format.order i.pl i.pl = some .eq) (f2 : FloatKind.f32.format.order i.sp i.sp = none) :
    Code.wp Try.prog ((Try.f12.body.bind firstLoop).getD .skip) (Exit.then (fun a' w'' => StillI w n g off c g' off' c' a' w'' ∧ stillMu n a' w'' < stillMu n ⟨#[.slice (some ⟨g, off, none⟩) n c, .slice (some ⟨g', off', none⟩) n c', undef, undef, u4, .int .i64 (k : Int), u6, u7, u8, u9, u10, u11, u12, u13, u14, u15, u16, u17, u18, u19, u20, u21, u22, u23, u24, u25, u26, u27, u28, u29, u30, u31, u32, u33, u34, u35, u36, u37, u38, u39, u40, u41, u42, u43, u44, u45, u46, u47, u48, u49, u50, u51, u52, u53, u54, u55, u56, u57, u58, u59, u60, u61, u62, u63, u64, u65, u66, u67, u68, u69, u70, u71, u72, u73, u74], []⟩ wr) Q0) ⟨#[.slice (some ⟨g, off, none⟩) n c, .slice (some ⟨g', off', none⟩) n c', undef, undef, u4, .int .i64 (k : Int), u6, u7, u8, u9, u10, u11, u12, u13, u14, u15, u16, u17, u18, u19, u20, u21, u22, u23, u24, u25, u26, u27, u28, u29, u30, u31, u32, u33, u34, u35, u36, u37, u38, u39, u40, u41, u42, u43, u44, u45, u46, u47, u48, u49, u50, u51, u52, u53, u54, u55, u56, u57, u58, u59, u60, u61, u62, u63, u64, u65, u66, u67, u68, u69, u70, u71, u72, u73, u74], []⟩ wr := by
  conv => arg 2; whnf
  have n1 : (FloatKind.f32.format.order i.pl i.pl == some Ordering.eq) = true := by rw [f1]; rfl
  have n2 : (FloatKind.f32.format.order i.sp i.sp == some Ordering.eq) = false := by rw [f2]; rfl
  have z1 : ((none : Option Ordering) != some Ordering.eq) = true := rfl
  have z2 : ((none : Option Ordering) == some Ordering.eq) = false := rfl
  have y0 : (0 : Int) ≤ (k : Int) := by omega
  have y1 : (k : Int) < (n : Int) := by omega
  go_wp2_with fail
  go_quiet (fail)
  go_wp2
  refine ⟨?_, by simp [stillMu, intOf]; omega⟩
  unfold StillI
  exact ⟨_, _, _, _, _, _, _, _, _, _, _, _, _, _, _, _, _, _, _, _, _, _, _, _, _, _, _, _, _, _, _, _, _, _, _, _, _, _, _, _, _, _, _, _, _, _, _, _, _, _, _, _, _, _, _, _, _, _, _, _, _, _, _, _, _, _, _, _, _, _, _, ⟨k + 1, by omega, by go_num, grownBy_drewN gk nq⟩, rfl⟩
end Go.Proofs.Ytammnaafdhhjaaa
