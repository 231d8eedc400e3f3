/- Ytammnaafdhhjaaa: the statement Scans, walked. -/
import Derived.Test.YtammnaafdhhjaaaS8
import Derived.Test.YtammnaafdhhjaaaC8
namespace Go.Proofs.Ytammnaafdhhjaaa
open Go.RowKit

set_option maxHeartbeats 8000000 in
set_option maxRecDepth 100000 in
theorem scans_any (l : List UInt8) (w : World) (hl : l.length ≤ 1048576) :
    Calls Try.prog 4 #[.string (S l)] w fun e w' => e = .returned (.bool true) ∧ w.grownBy w' none := by
  obtain ⟨K, hK⟩ : ∃ K, (scanC l).2 = K := ⟨_, rfl⟩
  have hkk : ((K : Int) != (K : Int)) = false := by simp
  go_enter Try.func4, Try.ntmps4
  go_wp2_with fail
  refine Calls.mono (refScan_any l w (by omega)) ?_
  rintro e wa ⟨v0, rs0, rfl, c0, m0, g0⟩
  rw [hK]
  have C0 := Hid.mk' c0
  have M0 := Hid.mk' m0
  clear c0 m0
  go_wp2_with fail
  refine Calls.mono (scanAll_any l wa (by omega)) ?_
  rintro e wb ⟨v1, rs1, rfl, c1, m1, g1⟩
  rw [hK]
  have C1 := Hid.mk' c1
  have M1 := Hid.mk' m1
  clear c1 m1
  go_wp2_with fail
  refine Calls.mono (scanAll_any l wb (by omega)) ?_
  rintro e wc ⟨v2, rs2, rfl, c2, m2, g2⟩
  rw [hK]
  have C2 := Hid.mk' c2
  have M2 := Hid.mk' m2
  clear c2 m2
  have CA1 : Hid (∀ r ∈ rs1, Calm r.p) := fun r hr => scanR_calm l.length l r.p (by show r.p ∈ scanL l; rw [← M1.out]; exact List.mem_map.2 ⟨r, hr, rfl⟩)
  have CA2 : Hid (∀ r ∈ rs2, Calm r.p) := fun r hr => scanR_calm l.length l r.p (by show r.p ∈ scanL l; rw [← M2.out]; exact List.mem_map.2 ⟨r, hr, rfl⟩)
  have n1 : rs1.length ≤ 1048576 := by have h1 := congrArg List.length M1.out; have h2 := scanL_len l; rw [List.length_map] at h1; omega
  have n2 : rs2.length = rs1.length := by have h1 := congrArg List.length M1.out; have h2 := congrArg List.length M2.out; rw [List.length_map] at h1 h2; omega
  go_wp2_with fail
  refine Calls.mono (sameRecords_any v1 v0 _ _ rs1 rs0 wc (C1.out.grown g2) ((C0.out.grown g1).grown g2) (by rw [M1.out, M0.out]) (by omega) CA1.out) ?_
  rintro e wd ⟨rfl, g3⟩
  go_wp2_with fail
  refine Calls.mono (sameRecords_any v2 v0 _ _ rs2 rs0 wd (C2.out.grown g3) (((C0.out.grown g1).grown g2).grown g3) (by rw [M2.out, M0.out]) (by omega) CA2.out) ?_
  rintro e we ⟨rfl, g4⟩
  have GW := Hid.mk' ((((g0.trans g1).trans g2).trans g3).trans g4)
  have LK := Hid.mk' (Look.start g0.size g1.size GW.out C1.out ((g2.trans g3).trans g4) ((C2.out.grown g3).grown g4) CA1.out CA2.out)
  have SEP : Hid (∀ j, v1.ownBlock = some j → v2.ownBlock ≠ some j) := fun j hj e => by have := (C1.out.row.lt j hj).2; have := (C2.out.row.lt j e).1; omega
  obtain ⟨a1, cc1, rfl⟩ := slice_len C1.out.row
  obtain ⟨a2, cc2, rfl⟩ := slice_len C2.out.row
  rw [n2] at LK SEP ⊢
  obtain ⟨n, hn⟩ : ∃ n, rs1.length = n := ⟨_, rfl⟩
  have HN := Hid.mk' hn
  have HN2 : Hid (rs2.length = n) := n2.trans hn
  rw [hn] at LK SEP n1 ⊢
  clear C0 M0 C1 M1 C2 M2 CA1 CA2 g0 g1 g2 g3 g4 GW n2 hn
  go_wp2_with fail
  go_loopw [12] (fun t wr => ∃ i : Nat, i ≤ n ∧ t = .int .i64 i ∧ Look w wr we.heap.size (.slice a1 n cc1) (.slice a2 n cc2) rs1 rs2 (turns (rs1.drop i) (rs2.drop i)) (8 * i)) (fun t _ => n - (intOf t).toNat)
  case atStart => exact ⟨0, by omega, rfl, LK.out⟩
  case round =>
    clear LK
    obtain ⟨i, hi, rfl, lk⟩ := hrel
    by_cases hlt : i < n
    · have h1l : i < rs1.length := by rw [HN.out]; exact hlt
      have h2l : i < rs2.length := by rw [HN2.out]; exact hlt
      rw [turns_cons rs1 rs2 i h1l h2l] at lk
      obtain ⟨r, hr⟩ : ∃ r, rs1[i] = r := ⟨_, rfl⟩
      obtain ⟨q, hq⟩ : ∃ q, rs2[i] = q := ⟨_, rfl⟩
      rw [hr, hq] at lk
      obtain ⟨ts, hts⟩ : ∃ ts, turns (rs1.drop (i + 1)) (rs2.drop (i + 1)) = ts := ⟨_, rfl⟩
      rw [hts] at lk
      have HTS := Hid.mk' hts
      have LK := Hid.mk' lk
      have r1 : wr.ownsRow w.heap.size 32 13 (.slice a1 n cc1) n (rs1.flatMap Rw.cells) := by
        obtain ⟨_, _, _, _, _, _, _, _, _, h, _⟩ := lk
        have := h.row
        rw [HN.out] at this
        exact this
      obtain ⟨g1, rfl⟩ : ∃ g1, a1 = some ⟨g1, 0, none⟩ := by
        rcases r1.2 with ⟨h', hn0⟩ | ⟨g, cap, cur, h', _⟩
        · omega
        · injection h' with h1 h2 h3
          exact ⟨g, h1⟩
      have d0 : wr.cell? ⟨g1, i * 13, none⟩ = some (.int .i64 r.p.kind) := (r1.cellAt _ (by omega)).trans (by rw [Nat.mul_comm i 13]; exact (flat_at13 rs1 i 0 h1l (by omega)).trans (by rw [hr]; rfl))
      have d1 : wr.cell? ⟨g1, i * 13 + 1, none⟩ = some (.int .i64 r.p.seq) := (r1.cellAt _ (by omega)).trans (by rw [Nat.mul_comm i 13]; exact (flat_at13 rs1 i 1 h1l (by omega)).trans (by rw [hr]; rfl))
      have d2 : wr.cell? ⟨g1, i * 13 + 2, none⟩ = some (.int .i64 r.p.it.sh) := (r1.cellAt _ (by omega)).trans (by rw [Nat.mul_comm i 13]; exact (flat_at13 rs1 i 2 h1l (by omega)).trans (by rw [hr]; rfl))
      have d3 : wr.cell? ⟨g1, i * 13 + 3, none⟩ = some (.int .i64 r.p.it.nu) := (r1.cellAt _ (by omega)).trans (by rw [Nat.mul_comm i 13]; exact (flat_at13 rs1 i 3 h1l (by omega)).trans (by rw [hr]; rfl))
      have d4 : wr.cell? ⟨g1, i * 13 + 4, none⟩ = some (.float .f32 r.p.it.pl) := (r1.cellAt _ (by omega)).trans (by rw [Nat.mul_comm i 13]; exact (flat_at13 rs1 i 4 h1l (by omega)).trans (by rw [hr]; rfl))
      have d5 : wr.cell? ⟨g1, i * 13 + 5, none⟩ = some (.float .f32 r.p.it.sp) := (r1.cellAt _ (by omega)).trans (by rw [Nat.mul_comm i 13]; exact (flat_at13 rs1 i 5 h1l (by omega)).trans (by rw [hr]; rfl))
      have d6 : wr.cell? ⟨g1, i * 13 + 6, none⟩ = some (.int .i64 r.p.mks.g) := (r1.cellAt _ (by omega)).trans (by rw [Nat.mul_comm i 13]; exact (flat_at13 rs1 i 6 h1l (by omega)).trans (by rw [hr]; rfl))
      have d7 : wr.cell? ⟨g1, i * 13 + 7, none⟩ = some (.int .i64 r.p.mks.m) := (r1.cellAt _ (by omega)).trans (by rw [Nat.mul_comm i 13]; exact (flat_at13 rs1 i 7 h1l (by omega)).trans (by rw [hr]; rfl))
      have d8 : wr.cell? ⟨g1, i * 13 + 8, none⟩ = some (.int .i64 r.p.mks.s) := (r1.cellAt _ (by omega)).trans (by rw [Nat.mul_comm i 13]; exact (flat_at13 rs1 i 8 h1l (by omega)).trans (by rw [hr]; rfl))
      have d9 : wr.cell? ⟨g1, i * 13 + 9, none⟩ = some (.int .i64 r.p.mks.a) := (r1.cellAt _ (by omega)).trans (by rw [Nat.mul_comm i 13]; exact (flat_at13 rs1 i 9 h1l (by omega)).trans (by rw [hr]; rfl))
      have d10 : wr.cell? ⟨g1, i * 13 + 10, none⟩ = some (.int .i64 r.p.mks.n) := (r1.cellAt _ (by omega)).trans (by rw [Nat.mul_comm i 13]; exact (flat_at13 rs1 i 10 h1l (by omega)).trans (by rw [hr]; rfl))
      have d11 : wr.cell? ⟨g1, i * 13 + 11, none⟩ = some (r.vi) := (r1.cellAt _ (by omega)).trans (by rw [Nat.mul_comm i 13]; exact (flat_at13 rs1 i 11 h1l (by omega)).trans (by rw [hr]; rfl))
      have d12 : wr.cell? ⟨g1, i * 13 + 12, none⟩ = some (r.vo) := (r1.cellAt _ (by omega)).trans (by rw [Nat.mul_comm i 13]; exact (flat_at13 rs1 i 12 h1l (by omega)).trans (by rw [hr]; rfl))
      have HR := Hid.mk' hr
      have HQ := Hid.mk' hq
      have x0 : (0 : Int) ≤ (i : Int) := by omega
      have x1 : (i : Int) < (n : Int) := by omega
      clear lk hts r1 hr hq
      go_wp2_with fail
      refine Calls.mono (ownRecord_look w wr _ _ _ rs1 rs2 _ r (8 * i) (by omega) LK.out) ?_
      rintro e w6 ⟨rfl, lk⟩
      clear LK d0 d1 d2 d3 d4 d5 d6 d7 d8 d9 d10 d11 d12
      have LK := Hid.mk' lk
      have r2 : w6.ownsRow w.heap.size 32 13 (.slice a2 n cc2) n (rs2.flatMap Rw.cells) := by
        obtain ⟨_, _, _, _, _, _, _, _, _, _, h, _⟩ := lk
        have := h.row
        rw [HN2.out] at this
        exact this
      obtain ⟨g2, rfl⟩ : ∃ g2, a2 = some ⟨g2, 0, none⟩ := by
        rcases r2.2 with ⟨h', hn0⟩ | ⟨g, cap, cur, h', _⟩
        · omega
        · injection h' with h1 h2 h3
          exact ⟨g, h1⟩
      have hq := HQ.out
      have e0 : w6.cell? ⟨g2, i * 13, none⟩ = some (.int .i64 q.p.kind) := (r2.cellAt _ (by omega)).trans (by rw [Nat.mul_comm i 13]; exact (flat_at13 rs2 i 0 h2l (by omega)).trans (by rw [hq]; rfl))
      have e1 : w6.cell? ⟨g2, i * 13 + 1, none⟩ = some (.int .i64 q.p.seq) := (r2.cellAt _ (by omega)).trans (by rw [Nat.mul_comm i 13]; exact (flat_at13 rs2 i 1 h2l (by omega)).trans (by rw [hq]; rfl))
      have e2 : w6.cell? ⟨g2, i * 13 + 2, none⟩ = some (.int .i64 q.p.it.sh) := (r2.cellAt _ (by omega)).trans (by rw [Nat.mul_comm i 13]; exact (flat_at13 rs2 i 2 h2l (by omega)).trans (by rw [hq]; rfl))
      have e3 : w6.cell? ⟨g2, i * 13 + 3, none⟩ = some (.int .i64 q.p.it.nu) := (r2.cellAt _ (by omega)).trans (by rw [Nat.mul_comm i 13]; exact (flat_at13 rs2 i 3 h2l (by omega)).trans (by rw [hq]; rfl))
      have e4 : w6.cell? ⟨g2, i * 13 + 4, none⟩ = some (.float .f32 q.p.it.pl) := (r2.cellAt _ (by omega)).trans (by rw [Nat.mul_comm i 13]; exact (flat_at13 rs2 i 4 h2l (by omega)).trans (by rw [hq]; rfl))
      have e5 : w6.cell? ⟨g2, i * 13 + 5, none⟩ = some (.float .f32 q.p.it.sp) := (r2.cellAt _ (by omega)).trans (by rw [Nat.mul_comm i 13]; exact (flat_at13 rs2 i 5 h2l (by omega)).trans (by rw [hq]; rfl))
      have e6 : w6.cell? ⟨g2, i * 13 + 6, none⟩ = some (.int .i64 q.p.mks.g) := (r2.cellAt _ (by omega)).trans (by rw [Nat.mul_comm i 13]; exact (flat_at13 rs2 i 6 h2l (by omega)).trans (by rw [hq]; rfl))
      have e7 : w6.cell? ⟨g2, i * 13 + 7, none⟩ = some (.int .i64 q.p.mks.m) := (r2.cellAt _ (by omega)).trans (by rw [Nat.mul_comm i 13]; exact (flat_at13 rs2 i 7 h2l (by omega)).trans (by rw [hq]; rfl))
      have e8 : w6.cell? ⟨g2, i * 13 + 8, none⟩ = some (.int .i64 q.p.mks.s) := (r2.cellAt _ (by omega)).trans (by rw [Nat.mul_comm i 13]; exact (flat_at13 rs2 i 8 h2l (by omega)).trans (by rw [hq]; rfl))
      have e9 : w6.cell? ⟨g2, i * 13 + 9, none⟩ = some (.int .i64 q.p.mks.a) := (r2.cellAt _ (by omega)).trans (by rw [Nat.mul_comm i 13]; exact (flat_at13 rs2 i 9 h2l (by omega)).trans (by rw [hq]; rfl))
      have e10 : w6.cell? ⟨g2, i * 13 + 10, none⟩ = some (.int .i64 q.p.mks.n) := (r2.cellAt _ (by omega)).trans (by rw [Nat.mul_comm i 13]; exact (flat_at13 rs2 i 10 h2l (by omega)).trans (by rw [hq]; rfl))
      have e11 : w6.cell? ⟨g2, i * 13 + 11, none⟩ = some (q.vi) := (r2.cellAt _ (by omega)).trans (by rw [Nat.mul_comm i 13]; exact (flat_at13 rs2 i 11 h2l (by omega)).trans (by rw [hq]; rfl))
      have e12 : w6.cell? ⟨g2, i * 13 + 12, none⟩ = some (q.vo) := (r2.cellAt _ (by omega)).trans (by rw [Nat.mul_comm i 13]; exact (flat_at13 rs2 i 12 h2l (by omega)).trans (by rw [hq]; rfl))
      clear lk r2 hq
      go_wp2_with fail
      refine Calls.mono (ownRecord_look w w6 _ _ _ rs1 rs2 ts q (8 * i + 4) (by omega) LK.out) ?_
      rintro e w7 ⟨rfl, lk⟩
      have LK7 := Hid.mk' lk
      clear lk
      go_wp2
      exact ⟨⟨i + 1, by omega, by go_num, by rw [HTS.out]; exact LK7.out⟩, by simp [intOf]; omega⟩
    · have hin : i = n := by omega
      subst hin
      obtain ⟨vI, vE, xi, xe, A, hb, hxi, hxe, ht, h1, h2, hg, hbk⟩ := lk
      have HB := Hid.mk' hb
      have H1 := Hid.mk' h1
      have H2 := Hid.mk' h2
      have HG := Hid.mk' hg
      clear hb h1 h2 ht hg
      go_wp2_with fail
      refine Calls.mono (lawMarks_any w.heap.size (.slice a1 i cc1) (.slice a2 i cc2) rs1 rs2 wr H1.out.row H2.out.row HG.out.size SEP.out (by rw [HN.out]; omega) (by rw [HN2.out]; omega)) ?_
      rintro e w8 ⟨rfl, o8⟩
      have B8 := Hid.mk' (HB.out.only o8 (fun j e => by
        rcases e with e | e
        · have := H1.out.fr j e; exact ⟨this.1, this.2.1, this.2.2.1, this.2.2.2.1⟩
        · have := H2.out.fr j e; exact ⟨this.1, this.2.1, this.2.2.1, this.2.2.2.1⟩))
      have G8 := Hid.mk' (grown_of_only HG.out o8 (fun j e => by
        rcases e with e | e
        · exact (H1.out.row.lt j e).1
        · exact (H2.out.row.lt j e).1))
      clear o8
      go_wp2_with fail
      refine Calls.mono (looks_any w.heap.size we.heap.size vI vE xi xe A w8 B8.out (by omega) (by omega)) ?_
      rintro e w9 ⟨rfl, g9⟩
      have G9 := Hid.mk' (G8.out.trans g9)
      clear g9
      go_wp2
      go_ret
      exact ⟨rfl, G9.out⟩
end Go.Proofs.Ytammnaafdhhjaaa
