/- Ytammnaafdhhjaaa: the document's Scan. -/
import Derived.Test.YtammnaafdhhjaaaS3
import Derived.Test.YtammnaafdhhjaaaR99
namespace Go.Proofs.Ytammnaafdhhjaaa
open Go.RowKit

theorem S_cut (l : List UInt8) (a b : Nat) : (S l).extract a b = S ((l.take b).drop a) := by
  apply ByteArray.ext
  apply Array.toList_inj.1
  rw [Lib.extract_data]; simp [S, List.drop_take]

set_option maxHeartbeats 4000000 in
theorem refScan_any (l : List UInt8) (w : World) (hl : l.length ≤ 2000000) :
    Calls Try.prog 15 #[.string (S l)] w fun e w' => ∃ v rs, e = .returned (.tuple #[v, .int .i64 (scanC l).2]) ∧ Came w.heap.size w' v rs ∧ rs.map Rw.p = scanL l ∧ w.grownBy w' none := by
  have hz := S_size l
  have hsf := run_store_float
  go_enter Try.func15, Try.ntmps15
  go_wp2
  go_loopw [4, 5] (fun v i wr => ∃ (n : Nat) (rs : List Rw), i = .int .i64 n ∧ n ≤ l.length ∧ rs.length ≤ n ∧ w.grownBy wr none ∧ Came w.heap.size wr v rs ∧ (scanC l).2 = n + (scanC (l.drop n)).2 ∧ scanL l = rs.map Rw.p ++ scanL (l.drop n)) (fun _ i _ => l.length - (intOf i).toNat)
  case atStart => exact ⟨0, [], rfl, by omega, by simp, grownBy_refl _ _, Came.nil _ _, by simp, by simp⟩
  case round =>
    obtain ⟨n, rs, rfl, hn, hk, gk, ok, hs, hq⟩ := hrel
    have HS := Hid.mk' hs
    have HQ := Hid.mk' hq
    have OK := Hid.mk' ok
    clear hs ok hq
    have hd : Hid (∀ m, (l.drop n).drop m = l.drop (n + m)) := fun m => by rw [List.drop_drop]
    have hdl : (l.drop n).length = l.length - n := List.length_drop
    have hrd := rdN2 l n
    obtain ⟨L, hL⟩ : ∃ L, l.drop n = L := ⟨_, rfl⟩
    rw [hL] at hd hdl HS HQ hrd
    have ht2 : (t2 L).length = L.length - 2 := by rw [t2, t1_eq, t1_eq]; simp
    obtain ⟨N, hN⟩ : ∃ N : Nat, b2 L = (N : Int) := ⟨(b2 L).toNat, by have := (b2_bd L).1; omega⟩
    have hfr : frame L = ((l.take (n + 2 + N)).drop (n + 2)) := by
      unfold frame
      rw [hN, ← hL, t2, t1_eq, t1_eq]
      simp only [List.drop_drop, List.drop_take, Int.toNat_natCast]
      rw [show n + 2 + N - (n + 2) = N by omega]
    clear hL
    have HFR := Hid.mk' hfr
    clear hfr
    have hNb : N ≤ 65535 := by have := (b2_bd L).2; omega
    rw [hN] at hrd
    by_cases h2 : n + 2 ≤ l.length
    · have x0 : ((n : Int) + 2 ≤ (l.length : Int)) := by omega
      go_wp2_with fail
      refine Calls.mono (refRead_any l n 2 _ (by omega) (by omega) (by omega)) ?_
      rintro e w1 ⟨rfl, rfl⟩
      rw [hrd]
      by_cases h3 : n + 2 + N ≤ l.length
      · have hF : frB L = true := by simp [frB, hN, ht2]; omega
        have x1 : ((n : Int) + 2 + (N : Int) ≤ (l.length : Int)) := by omega
        have x2 : decide ((l.length : Int) < (n : Int) + 2 + (N : Int)) = false := by simp; omega
        have hcut : (S l).extract (n + 2) (n + 2 + N) = S (frame L) := by rw [HFR.out]; exact S_cut l _ _
        have hfl : (frame L).length = N := by rw [HFR.out]; simp; omega
        go_wp2_with fail
        refine Calls.mono (refDecode_any (frame L) _ (by omega)) ?_
        rintro e w2 ⟨g2, (⟨hd0, rfl⟩ | ⟨hd1, vi, vo, rfl, oi, oo, io⟩)⟩
        · have e0 := scanC_no L (by rw [hd0]; simp)
          have e1 := scanL_no L (by rw [hd0]; simp)
          rw [e0] at HS
          rw [e1] at HQ
          clear e0 e1
          unfold zeroV rv
          go_wp2_with fail
          go_ret2
          refine ⟨u4, rs, ret2_of rfl ?_, OK.out.grown (grownBy_alloc' g2 _), by rw [HQ.out, List.append_nil], grownBy_alloc' (gk.trans g2) _⟩
          rw [HS.out]; rfl
        · have e1 := scanC_yes L ⟨hF, hd1⟩
          have e2 := scanL_yes L ⟨hF, hd1⟩
          rw [e1] at HS
          rw [e2] at HQ
          clear e1 e2 hd1
          obtain ⟨ai, ni, ci, rfl⟩ := slice_of oi
          obtain ⟨ao, no, co, rfl⟩ := slice_of oo
          have OI := Hid.mk' oi
          have OO := Hid.mk' oo
          have IOh := Hid.mk' io
          clear oi oo io
          generalize dec (frame L) = p at HQ OI OO ⊢
          unfold rv
          have zk := gk.size
          have z2 := g2.size
          have G01 := Hid.mk' gk
          have G2 := Hid.mk' g2
          have o2 : Hid (w2.ownsRow w.heap.size 32 13 u4 rs.length (rs.flatMap Rw.cells)) := own_grown OK.out.row g2
          have g02 := Hid.mk' (gk.trans g2)
          have hv : Hid (∀ j, u4.ownBlock = some j → w.heap.size ≤ j) := fun j hj => (o2.out.lt j hj).1
          clear g2
          go_wp2_with (at_builtin; refine wp_appR rfl _ _ rfl w.heap.size u4 rs.length (rs.flatMap Rw.cells) rfl (World.ownsRow.alloc (World.ownsRow.alloc o2.out _) _) ⟨w2.heap.size + 1, 0, none⟩ [.int .i64 p.kind, .int .i64 p.seq, .int .i64 p.it.sh, .int .i64 p.it.nu, .float .f32 p.it.pl, .float .f32 p.it.sp, .int .i64 p.mks.g, .int .i64 p.mks.m, .int .i64 p.mks.s, .int .i64 p.mks.a, .int .i64 p.mks.n, .slice ai ni ci, .slice ao no co] rfl rfl ?c1 ?c2 ?c3 ?c4 ?c5)
          case c1 => exact cells_new _ _ _ _ (by simp)
          case c2 => simp [Value.oneCell']
          case c3 => omega
          case c4 => simp; omega
          case c5 =>
          intro v' w3 o3 g3 hvv
          have g03 : w.grownBy w3 none := grownBy_row g3 (grownBy_alloc' (grownBy_alloc' g02.out _) _) hv.out
          have CC : Hid (Came w.heap.size w3 v' (rs ++ [⟨p, .slice ai ni ci, .slice ao no co⟩])) :=
            OK.out.add (r := ⟨p, .slice ai ni ci, .slice ao no co⟩) G01.out.size (grownBy_alloc' (grownBy_alloc' G2.out _) _) (World.ownsRow.alloc (World.ownsRow.alloc OI.out _) _) (World.ownsRow.alloc (World.ownsRow.alloc OO.out _) _) IOh.out o3 g3
              (by rcases hvv with e | e; exact .inl e; exact .inr ⟨_, by simp, e⟩)
          clear o3 g3 hvv
          go_wp2
          refine ⟨⟨n + 2 + N, rs ++ [⟨p, .slice ai ni ci, .slice ao no co⟩], by go_num, by omega, by simp; omega, g03, CC.out, ?_, ?_⟩, by simp [intOf]; omega⟩
          · rw [HS.out, hd.out, hfl, show n + (2 + N) = n + 2 + N by omega]
            show n + (2 + N + _) = n + 2 + N + _
            omega
          · rw [HQ.out, hd.out, hfl, show n + (2 + N) = n + 2 + N by omega]
            simp
      · have hF : frB L = false := by simp [frB, hN, ht2]; omega
        have x2 : decide ((l.length : Int) < (n : Int) + 2 + (N : Int)) = true := by simp; omega
        have e0 := scanC_no L (by rw [hF]; simp)
        have e1 := scanL_no L (by rw [hF]; simp)
        rw [e0] at HS
        rw [e1] at HQ
        clear e0 e1
        go_wp2
        go_ret2
        refine ⟨u4, rs, ret2_of rfl ?_, OK.out, by rw [HQ.out, List.append_nil], gk⟩
        rw [HS.out]; rfl
    · have hF : frB L = false := by simp [frB]; omega
      have e0 := scanC_no L (by rw [hF]; simp)
      have e1 := scanL_no L (by rw [hF]; simp)
      rw [e0] at HS
      rw [e1] at HQ
      clear e0 e1
      have x0 : ¬ ((n : Int) + 2 ≤ (l.length : Int)) := by omega
      go_wp2
      go_ret2
      refine ⟨u4, ret2_of rfl ?_, rs, OK.out, by rw [HQ.out, List.append_nil], gk⟩
      rw [HS.out]; rfl
end Go.Proofs.Ytammnaafdhhjaaa
