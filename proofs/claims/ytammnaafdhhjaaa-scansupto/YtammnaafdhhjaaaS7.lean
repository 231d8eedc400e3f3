/- Ytammnaafdhhjaaa: lists of records that came out, written full of marks, read as they were written. -/
import Derived.Test.YtammnaafdhhjaaaS6
namespace Go.Proofs.Ytammnaafdhhjaaa
open Go.RowKit

/-- Where the lists that are put down may lie, behind q groups. -/
def Gq (w : World) (vf va : Value) (q : Nat) (j : Nat) : Prop := w.heap.size ≤ j ∨ (1 ≤ q ∧ vf.ownBlock = some j) ∨ (2 ≤ q ∧ va.ownBlock = some j)

theorem ym_app {ys : List (Value × Int × Nat)} {x : Value × Int × Nat} (h : ∀ t p, ys[t]? = some p → p.2.1 = -1 - ((t / 4 : Nat) : Int) ∧ p.2.2 ≤ 2000003) (hx : x.2.1 = -1 - ((ys.length / 4 : Nat) : Int) ∧ x.2.2 ≤ 2000003) : ∀ t p, (ys ++ [x])[t]? = some p → p.2.1 = -1 - ((t / 4 : Nat) : Int) ∧ p.2.2 ≤ 2000003 := fun t p hp => by
  by_cases ht : t < ys.length
  · rw [List.getElem?_append_left ht] at hp
    exact h t p hp
  · have hlt := (List.getElem?_eq_some_iff.1 hp).1
    rw [List.length_append, List.length_singleton] at hlt
    have ht2 : t = ys.length := by omega
    subst ht2
    rw [List.getElem?_append_right (Nat.le_refl _)] at hp
    simp at hp
    subst hp
    exact hx

set_option maxHeartbeats 8000000 in
set_option maxRecDepth 100000 in
theorem marks_x (B : Nat) (af aa : Option Addr) (nf cf na ca : Nat) (rs qs : List Rw) (w : World) (hrs : rs.length = nf) (hqs : qs.length = na) (hf : w.ownsRow B 32 13 (.slice af nf cf) nf (rs.flatMap Rw.cells)) (ha : w.ownsRow B 32 13 (.slice aa na ca) na (qs.flatMap Rw.cells))
    (hB : B ≤ w.heap.size) (hsep : ∀ j, Value.ownBlock (.slice af nf cf) = some j → Value.ownBlock (.slice aa na ca) ≠ some j) (hn : nf ≤ 2000000) (hn' : na ≤ 2000000) :
    Calls Try.prog 19 #[.slice af nf cf, .slice aa na ca] w fun e w' => e = .returned (.bool true) ∧ Only w w' (fun j => Value.ownBlock (.slice af nf cf) = some j ∨ Value.ownBlock (.slice aa na ca) = some j) := by
  obtain ⟨F, hF⟩ : ∃ F : Nat → Prop, F = (fun j => Value.ownBlock (.slice af nf cf) = some j ∨ Value.ownBlock (.slice aa na ca) = some j) := ⟨_, rfl⟩
  rw [← hF]
  have HF := Hid.mk' hf
  have HA := Hid.mk' ha
  have HS := Hid.mk' hsep
  have HFF := Hid.mk' hF
  have HR := Hid.mk' hrs
  have HQ := Hid.mk' hqs
  clear hf ha hsep hF hrs hqs
  have hsf := run_store_float
  obtain ⟨iO, hi, hz0, hz1, hz2⟩ := infoRecs
  obtain ⟨iT, hiT, hy0, hy1, hy2⟩ := infoRecord
  go_enter Try.func19, Try.ntmps19
  go_wp2_with fail
  go_loopw [5, 6] (fun v t wr => ∃ (q : Nat) (ys : List (Value × Int × Nat)) (lc : Value) (N : Nat), q ≤ 2 ∧ t = .int .i64 q ∧ ys.length = 4 * q ∧ (∀ t p, ys[t]? = some p → p.2.1 = -1 - ((t / 4 : Nat) : Int) ∧ p.2.2 ≤ 2000003) ∧ Mrk w wr B F (Gq w (.slice af nf cf) (.slice aa na ca) q) v lc N ys ∧ (q = 0 → wr.ownsRow B 32 13 (.slice af nf cf) nf (rs.flatMap Rw.cells)) ∧ (q ≤ 1 → wr.ownsRow B 32 13 (.slice aa na ca) na (qs.flatMap Rw.cells))) (fun _ t _ => 2 - (intOf t).toNat)
  case atStart => exact ⟨0, [], .slice none 0 0, 0, by omega, rfl, rfl, by simp, ⟨World.ownsRow_nil _ _ _ _, by simp [Value.ownBlock], by simp, Only.refl _ _, by simp [Value.ownBlock], by simp [Value.ownBlock]⟩, fun _ => HF.out, fun _ => HA.out⟩
  case round =>
    obtain ⟨q, ys, lc, N, hq, rfl, hyl, hym, hmk, hrf, hra⟩ := hrel
    have HYM := Hid.mk' hym
    clear hym
    rcases (by omega : q = 0 ∨ q = 1 ∨ q = 2) with rfl | rfl | rfl
    · have RF := Hid.mk' (hrf rfl)
      have RA := Hid.mk' (hra (by omega))
      have MK0 : Mrk w wr B F (Gq w (.slice af nf cf) (.slice aa na ca) 1) u5 (.slice af nf cf) 0 ys := hmk.other (fun j e => by rcases e with e | ⟨e, _⟩ | ⟨e, _⟩; exact .inl e; omega; omega) (fun j hj => ⟨fun e => by
        have := (HF.out.lt j hj).2
        rcases e with e | ⟨e, _⟩ | ⟨e, _⟩ <;> omega, .inr (.inl ⟨by omega, hj⟩), by rw [HFF.out]; exact .inl hj, (HF.out.lt j hj).2⟩)
      clear hrf hra hmk
      have MK := Hid.mk' MK0
      clear MK0
      go_wp2_with fail
      go_loopw [8] (fun t wf => ∃ i : Nat, i ≤ nf ∧ t = .int .i64 i ∧ Mrk w wf B F (Gq w (.slice af nf cf) (.slice aa na ca) 1) u5 (.slice af nf cf) 0 ys ∧ wf.ownsRow B 32 13 (.slice aa na ca) na (qs.flatMap Rw.cells) ∧ wf.ownsRow B 32 13 (.slice af nf cf) nf ((List.replicate i (mkRw (-1)) ++ rs.drop i).flatMap Rw.cells)) (fun t _ => nf - (intOf t).toNat)
      case atStart => exact ⟨0, by omega, rfl, MK.out, RA.out, RF.out⟩
      case round =>
      clear RF RA MK
      obtain ⟨i, hin, rfl, mk, ra, rq⟩ := hrel
      have MK := Hid.mk' mk
      have RA := Hid.mk' ra
      have RQ := Hid.mk' rq
      clear mk rq ra
      by_cases hlt : i < nf
      · obtain ⟨g, rfl, hgB⟩ : ∃ g, af = some ⟨g, 0, none⟩ ∧ B ≤ g := by
          rcases RQ.out.2 with ⟨h', hn0⟩ | ⟨g, cap, cur, h', hb, _⟩
          · omega
          · injection h' with h1 h2 h3
            exact ⟨g, h1, hb⟩
        have hdr : rs.drop i = rs[i]'(by rw [HR.out]; exact hlt) :: rs.drop (i + 1) := List.drop_eq_getElem_cons (by rw [HR.out]; exact hlt)
        obtain ⟨y, hy⟩ : ∃ y, rs[i]'(by rw [HR.out]; exact hlt) = y := ⟨_, rfl⟩
        have hsplit : (List.replicate i (mkRw (-1)) ++ rs.drop i).flatMap Rw.cells = (List.replicate i (mkRw (-1))).flatMap Rw.cells ++ [.int .i64 y.p.kind, .int .i64 y.p.seq, .int .i64 y.p.it.sh, .int .i64 y.p.it.nu, .float .f32 y.p.it.pl, .float .f32 y.p.it.sp, .int .i64 y.p.mks.g, .int .i64 y.p.mks.m, .int .i64 y.p.mks.s, .int .i64 y.p.mks.a, .int .i64 y.p.mks.n, y.vi, y.vo] ++ (rs.drop (i + 1)).flatMap Rw.cells := by
          rw [hdr, hy, List.flatMap_append, List.flatMap_cons, List.append_assoc]; rfl
        have RS := RQ.out
        rw [hsplit] at RS
        have hAl : ((List.replicate i (mkRw (-1))).flatMap Rw.cells).length = i * 13 := by rw [rcells_len, List.length_replicate]
        have RSS := Hid.mk' RS
        rw [List.append_assoc] at RS
        have d0 : wr.cell? ⟨g, i * 13, none⟩ = some (.int .i64 y.p.kind) := (RS.cellAt _ (by omega)).trans (by rw [List.getElem?_append_right (by omega), hAl]; simp)
        have d1 : wr.cell? ⟨g, i * 13 + 1, none⟩ = some (.int .i64 y.p.seq) := (RS.cellAt _ (by omega)).trans (by rw [List.getElem?_append_right (by omega), hAl]; simp)
        have d2 : wr.cell? ⟨g, i * 13 + 2, none⟩ = some (.int .i64 y.p.it.sh) := (RS.cellAt _ (by omega)).trans (by rw [List.getElem?_append_right (by omega), hAl]; simp)
        have d3 : wr.cell? ⟨g, i * 13 + 3, none⟩ = some (.int .i64 y.p.it.nu) := (RS.cellAt _ (by omega)).trans (by rw [List.getElem?_append_right (by omega), hAl]; simp)
        have d4 : wr.cell? ⟨g, i * 13 + 4, none⟩ = some (.float .f32 y.p.it.pl) := (RS.cellAt _ (by omega)).trans (by rw [List.getElem?_append_right (by omega), hAl]; simp)
        have d5 : wr.cell? ⟨g, i * 13 + 5, none⟩ = some (.float .f32 y.p.it.sp) := (RS.cellAt _ (by omega)).trans (by rw [List.getElem?_append_right (by omega), hAl]; simp)
        have d6 : wr.cell? ⟨g, i * 13 + 6, none⟩ = some (.int .i64 y.p.mks.g) := (RS.cellAt _ (by omega)).trans (by rw [List.getElem?_append_right (by omega), hAl]; simp)
        have d7 : wr.cell? ⟨g, i * 13 + 7, none⟩ = some (.int .i64 y.p.mks.m) := (RS.cellAt _ (by omega)).trans (by rw [List.getElem?_append_right (by omega), hAl]; simp)
        have d8 : wr.cell? ⟨g, i * 13 + 8, none⟩ = some (.int .i64 y.p.mks.s) := (RS.cellAt _ (by omega)).trans (by rw [List.getElem?_append_right (by omega), hAl]; simp)
        have d9 : wr.cell? ⟨g, i * 13 + 9, none⟩ = some (.int .i64 y.p.mks.a) := (RS.cellAt _ (by omega)).trans (by rw [List.getElem?_append_right (by omega), hAl]; simp)
        have d10 : wr.cell? ⟨g, i * 13 + 10, none⟩ = some (.int .i64 y.p.mks.n) := (RS.cellAt _ (by omega)).trans (by rw [List.getElem?_append_right (by omega), hAl]; simp)
        have d11 : wr.cell? ⟨g, i * 13 + 11, none⟩ = some (y.vi) := (RS.cellAt _ (by omega)).trans (by rw [List.getElem?_append_right (by omega), hAl]; simp)
        have d12 : wr.cell? ⟨g, i * 13 + 12, none⟩ = some (y.vo) := (RS.cellAt _ (by omega)).trans (by rw [List.getElem?_append_right (by omega), hAl]; simp)
        have fg : ∀ j, wr.frozen? ⟨g, j, none⟩ = false := fun j => RS.frozenAt j
        have x0 : (0 : Int) ≤ (i : Int) := by omega
        have x1 : (i : Int) < (nf : Int) := by omega
        clear RS hsplit hdr hy
        go_wp2_with fail
        have O4 := Hid.mk' (putL_only g [.int .i64 (-1), .int .i64 0, .int .i64 0, .int .i64 0, .float .f32 0, .float .f32 0, .int .i64 0, .int .i64 0, .int .i64 0, .int .i64 0, .int .i64 0, .slice none 0 0, .slice none 0 0] wr (i * 13))
        have W4 := Hid.mk' (putL_own [.int .i64 (-1), .int .i64 0, .int .i64 0, .int .i64 0, .float .f32 0, .float .f32 0, .int .i64 0, .int .i64 0, .int .i64 0, .int .i64 0, .int .i64 0, .slice none 0 0, .slice none 0 0] [.int .i64 y.p.kind, .int .i64 y.p.seq, .int .i64 y.p.it.sh, .int .i64 y.p.it.nu, .float .f32 y.p.it.pl, .float .f32 y.p.it.sp, .int .i64 y.p.mks.g, .int .i64 y.p.mks.m, .int .i64 y.p.mks.s, .int .i64 y.p.mks.a, .int .i64 y.p.mks.n, y.vi, y.vo] _ _ wr (i * 13) rfl hAl RSS.out)
        have E4 : (((((((((((((wr.setCell ⟨g, i * 13, none⟩ (.int .i64 (-1))).setCell ⟨g, i * 13 + 1, none⟩ (.int .i64 0)).setCell ⟨g, i * 13 + 2, none⟩ (.int .i64 0)).setCell ⟨g, i * 13 + 3, none⟩ (.int .i64 0)).setCell ⟨g, i * 13 + 4, none⟩ (.float .f32 0)).setCell ⟨g, i * 13 + 5, none⟩ (.float .f32 0)).setCell ⟨g, i * 13 + 6, none⟩ (.int .i64 0)).setCell ⟨g, i * 13 + 7, none⟩ (.int .i64 0)).setCell ⟨g, i * 13 + 8, none⟩ (.int .i64 0)).setCell ⟨g, i * 13 + 9, none⟩ (.int .i64 0)).setCell ⟨g, i * 13 + 10, none⟩ (.int .i64 0)).setCell ⟨g, i * 13 + 11, none⟩ (.slice none 0 0)).setCell ⟨g, i * 13 + 12, none⟩ (.slice none 0 0)) = putL wr g (i * 13) [.int .i64 (-1), .int .i64 0, .int .i64 0, .int .i64 0, .float .f32 0, .float .f32 0, .int .i64 0, .int .i64 0, .int .i64 0, .int .i64 0, .int .i64 0, .slice none 0 0, .slice none 0 0] := rfl
        rw [E4]
        clear E4 d0 d1 d2 d3 d4 d5 d6 d7 d8 d9 d10 d11 d12 fg
        generalize putL wr g (i * 13) [.int .i64 (-1), .int .i64 0, .int .i64 0, .int .i64 0, .float .f32 0, .float .f32 0, .int .i64 0, .int .i64 0, .int .i64 0, .int .i64 0, .int .i64 0, .slice none 0 0, .slice none 0 0] = w4 at *
        refine ⟨⟨i + 1, by omega, by go_num, MK.out.fill (O4.out.mono (fun j _ hj => by rw [hj]; rfl)), O4.out.own RA.out (fun j hj e => HS.out j (by rw [e]; rfl) hj), ?_⟩, by simp [intOf]; omega⟩
        have e : (List.replicate (i + 1) (mkRw (-1)) ++ rs.drop (i + 1)).flatMap Rw.cells = (List.replicate i (mkRw (-1))).flatMap Rw.cells ++ [.int .i64 (-1), .int .i64 0, .int .i64 0, .int .i64 0, .float .f32 0, .float .f32 0, .int .i64 0, .int .i64 0, .int .i64 0, .int .i64 0, .int .i64 0, .slice none 0 0, .slice none 0 0] ++ (rs.drop (i + 1)).flatMap Rw.cells := by
          rw [List.replicate_succ', List.flatMap_append, List.flatMap_append, List.flatMap_singleton]; rfl
        rw [e]
        exact W4.out
      · have hqn : i = nf := by omega
        subst hqn
        rw [List.drop_of_length_le (by rw [HR.out]; exact Nat.le_refl _), List.append_nil] at RQ
        have M0 := Hid.mk' (MK.out.more (Nat.zero_le i))
        have zr := MK.out.o.size
        clear MK
        go_wp2_with (at_builtin; refine wp_appK rfl _ _ 73 rfl 43 iO _ 1 24 Try.underlying73 hi hz0 hz1 hz2 rfl (by decide) B u5 ys.length (ys.map (·.1)) rfl (World.ownsRow.alloc M0.out.row _) ⟨wr.heap.size, 0, none⟩ [.slice af i cf] rfl rfl (cells_new _ [.slice af i cf] _ _ rfl) (by simp [Value.oneCell']) (by rw [hyl]; unfold maxLen; omega) (by rw [hyl]; omega) (by simp; omega) ?_; intro v1 w1 r1 g1 h1 k1)
        have MD := Hid.mk' (M0.out.down RQ.out g1 r1 h1)
        have z1 := g1.size
        simp at z1
        have RA1 : Hid (w1.ownsRow B 32 13 (.slice aa na ca) na (qs.flatMap Rw.cells)) := World.ownsRow.kept (World.ownsRow.alloc RA.out _) g1 (by cases hq : Value.ownBlock (.slice aa na ca) with | none => exact .inl rfl | some j => exact .inr (fun e => by have := M0.out.v j e.symm; have := (HA.out.lt j hq).2; omega))
        have YM : Hid (∀ t p, (ys ++ [((.slice af i cf : Value), ((-1) : Int), i)])[t]? = some p → p.2.1 = -1 - ((t / 4 : Nat) : Int) ∧ p.2.2 ≤ 2000003) := ym_app HYM.out ⟨by rw [hyl]; rfl, by show i ≤ 2000003; omega⟩
        clear g1 r1 h1 k1 M0 RQ RA HYM
        go_loopw [5, 7, 9] (fun v l t wq => ∃ (r : Nat) (zs : List (Value × Int × Nat)), r ≤ 3 ∧ t = .int .i64 r ∧ zs.length = 0 + (r + 1) ∧ (∀ t p, zs[t]? = some p → p.2.1 = -1 - ((t / 4 : Nat) : Int) ∧ p.2.2 ≤ 2000003) ∧ wq.ownsRow B 32 13 (.slice aa na ca) na (qs.flatMap Rw.cells) ∧ Mrk w wq B F (Gq w (.slice af i cf) (.slice aa na ca) 1) v l (i + r) zs ∧ wq.ownsRow B 32 13 l (i + r) ((List.replicate (i + r) (mkRw (-1))).flatMap Rw.cells)) (fun _ _ t _ => 3 - (intOf t).toNat)
        case atStart => exact ⟨0, _, by omega, rfl, by rw [List.length_append, hyl]; rfl, YM.out, RA1.out, MD.out.1, MD.out.2⟩
        case round =>
        clear MD YM RA1
        obtain ⟨r, zs, hr, rfl, hzl, hzm, ra, mk, rl⟩ := hrel
        have HZM := Hid.mk' hzm
        have MK := Hid.mk' mk
        have RL := Hid.mk' rl
        have RA := Hid.mk' ra
        clear hzm mk rl ra
        have zr' := MK.out.o.size
        by_cases hlt3 : r < 3
        · go_wp2_with (first | (at_builtin; refine wp_appK rfl _ _ 43 rfl 32 iT _ 13 128 Try.underlying43 hiT hy0 hy1 hy2 rfl (by decide) B u7 (i + r) _ rfl (World.ownsRow.alloc RL.out _) ⟨wr.heap.size, 0, none⟩ (mkRw (-1)).cells rfl rfl (cells_new _ (mkRw (-1)).cells _ _ rfl) (by simp [Rw.cells, mkRw, Value.oneCell']) (by unfold maxLen; omega) (by omega) (by simp; omega) ?_; intro l2 w2 r2 g2 h2 k2; obtain ⟨a2, c2, rfl⟩ := slice_len r2; have M2 := Hid.mk' (MK.out.longer (fun j hj => .inl hj) g2 r2 h2 k2); have z2 := g2.size) | (at_builtin; refine wp_appK rfl _ _ 73 rfl 43 iO _ 1 24 Try.underlying73 hi hz0 hz1 hz2 rfl (by decide) B u5 zs.length (zs.map (·.1)) rfl (World.ownsRow.alloc M2.out.row _) ⟨w2.heap.size, 0, none⟩ [.slice a2 (i + r + 1) c2] rfl rfl (cells_new _ [.slice a2 (i + r + 1) c2] _ _ rfl) (by simp [Value.oneCell']) (by rw [hzl]; unfold maxLen; omega) (by rw [hzl]; omega) (by simp at z2; simp; omega) ?_; intro v3 w3 r3 g3 h3 k3))
          have L2 : w2.ownsRow B 32 13 (.slice a2 (i + r + 1) c2) (i + r + 1) ((List.replicate (i + r + 1) (mkRw (-1))).flatMap Rw.cells) := by
            rw [List.replicate_succ', List.flatMap_append, List.flatMap_singleton]
            exact r2
          have MD := M2.out.down L2 g3 r3 h3
          have RA2 : w2.ownsRow B 32 13 (.slice aa na ca) na (qs.flatMap Rw.cells) := World.ownsRow.kept (World.ownsRow.alloc RA.out _) g2 (by
            cases hq : Value.ownBlock (.slice aa na ca) with
            | none => exact .inl rfl
            | some j =>
              refine .inr (fun e => ?_)
              have hj := (HA.out.lt j hq).2
              rcases (MK.out.l j e.symm).1 with h | ⟨_, h⟩ | ⟨h, _⟩
              · omega
              · exact HS.out j h hq
              · omega)
          have RA3 : w3.ownsRow B 32 13 (.slice aa na ca) na (qs.flatMap Rw.cells) := World.ownsRow.kept (World.ownsRow.alloc RA2 _) g3 (by
            cases hq : Value.ownBlock (.slice aa na ca) with
            | none => exact .inl rfl
            | some j =>
              refine .inr (fun e => ?_)
              have hj := (HA.out.lt j hq).2
              have := MK.out.v j e.symm
              omega)
          refine ⟨⟨r + 1, _, by omega, by go_num, ?_, ym_app HZM.out ⟨?_, by show i + r + 1 ≤ 2000003; omega⟩, RA3, MD.1, MD.2⟩, by simp [intOf]; omega⟩
          · rw [List.length_append, hzl]; rfl
          · show ((-1) : Int) = _
            rw [hzl, show (0 + (r + 1)) / 4 = 0 by omega]; rfl
        · have hr3 : r = 3 := by omega
          subst hr3
          go_wp2
          exact ⟨⟨1, zs, u7, i + 3, by omega, rfl, hzl, HZM.out, MK.out, fun h => by omega, fun h => RA.out⟩, by simp [intOf]⟩

    · have RA := Hid.mk' (hra (by omega))
      have MK0 : Mrk w wr B F (Gq w (.slice af nf cf) (.slice aa na ca) 2) u5 (.slice aa na ca) 0 ys := hmk.other (fun j e => by rcases e with e | ⟨_, e⟩ | ⟨e, _⟩; exact .inl e; exact .inr (.inl ⟨by omega, e⟩); omega) (fun j hj => ⟨fun e => by
        have := (HA.out.lt j hj).2
        rcases e with e | ⟨_, e⟩ | ⟨e, _⟩
        · omega
        · exact HS.out j e hj
        · omega, .inr (.inr ⟨by omega, hj⟩), by rw [HFF.out]; exact .inr hj, (HA.out.lt j hj).2⟩)
      clear hrf hra hmk
      have MK := Hid.mk' MK0
      clear MK0
      go_wp2_with fail
      go_loopw [8] (fun t wf => ∃ i : Nat, i ≤ na ∧ t = .int .i64 i ∧ Mrk w wf B F (Gq w (.slice af nf cf) (.slice aa na ca) 2) u5 (.slice aa na ca) 0 ys ∧ wf.ownsRow B 32 13 (.slice aa na ca) na ((List.replicate i (mkRw (-2)) ++ qs.drop i).flatMap Rw.cells)) (fun t _ => na - (intOf t).toNat)
      case atStart => exact ⟨0, by omega, rfl, MK.out, RA.out⟩
      case round =>
      clear RA MK
      obtain ⟨i, hin, rfl, mk, rq⟩ := hrel
      have MK := Hid.mk' mk
      have RQ := Hid.mk' rq
      clear mk rq
      by_cases hlt : i < na
      · obtain ⟨g, rfl, hgB⟩ : ∃ g, aa = some ⟨g, 0, none⟩ ∧ B ≤ g := by
          rcases RQ.out.2 with ⟨h', hn0⟩ | ⟨g, cap, cur, h', hb, _⟩
          · omega
          · injection h' with h1 h2 h3
            exact ⟨g, h1, hb⟩
        have hdr : qs.drop i = qs[i]'(by rw [HQ.out]; exact hlt) :: qs.drop (i + 1) := List.drop_eq_getElem_cons (by rw [HQ.out]; exact hlt)
        obtain ⟨y, hy⟩ : ∃ y, qs[i]'(by rw [HQ.out]; exact hlt) = y := ⟨_, rfl⟩
        have hsplit : (List.replicate i (mkRw (-2)) ++ qs.drop i).flatMap Rw.cells = (List.replicate i (mkRw (-2))).flatMap Rw.cells ++ [.int .i64 y.p.kind, .int .i64 y.p.seq, .int .i64 y.p.it.sh, .int .i64 y.p.it.nu, .float .f32 y.p.it.pl, .float .f32 y.p.it.sp, .int .i64 y.p.mks.g, .int .i64 y.p.mks.m, .int .i64 y.p.mks.s, .int .i64 y.p.mks.a, .int .i64 y.p.mks.n, y.vi, y.vo] ++ (qs.drop (i + 1)).flatMap Rw.cells := by
          rw [hdr, hy, List.flatMap_append, List.flatMap_cons, List.append_assoc]; rfl
        have RS := RQ.out
        rw [hsplit] at RS
        have hAl : ((List.replicate i (mkRw (-2))).flatMap Rw.cells).length = i * 13 := by rw [rcells_len, List.length_replicate]
        have RSS := Hid.mk' RS
        rw [List.append_assoc] at RS
        have d0 : wr.cell? ⟨g, i * 13, none⟩ = some (.int .i64 y.p.kind) := (RS.cellAt _ (by omega)).trans (by rw [List.getElem?_append_right (by omega), hAl]; simp)
        have d1 : wr.cell? ⟨g, i * 13 + 1, none⟩ = some (.int .i64 y.p.seq) := (RS.cellAt _ (by omega)).trans (by rw [List.getElem?_append_right (by omega), hAl]; simp)
        have d2 : wr.cell? ⟨g, i * 13 + 2, none⟩ = some (.int .i64 y.p.it.sh) := (RS.cellAt _ (by omega)).trans (by rw [List.getElem?_append_right (by omega), hAl]; simp)
        have d3 : wr.cell? ⟨g, i * 13 + 3, none⟩ = some (.int .i64 y.p.it.nu) := (RS.cellAt _ (by omega)).trans (by rw [List.getElem?_append_right (by omega), hAl]; simp)
        have d4 : wr.cell? ⟨g, i * 13 + 4, none⟩ = some (.float .f32 y.p.it.pl) := (RS.cellAt _ (by omega)).trans (by rw [List.getElem?_append_right (by omega), hAl]; simp)
        have d5 : wr.cell? ⟨g, i * 13 + 5, none⟩ = some (.float .f32 y.p.it.sp) := (RS.cellAt _ (by omega)).trans (by rw [List.getElem?_append_right (by omega), hAl]; simp)
        have d6 : wr.cell? ⟨g, i * 13 + 6, none⟩ = some (.int .i64 y.p.mks.g) := (RS.cellAt _ (by omega)).trans (by rw [List.getElem?_append_right (by omega), hAl]; simp)
        have d7 : wr.cell? ⟨g, i * 13 + 7, none⟩ = some (.int .i64 y.p.mks.m) := (RS.cellAt _ (by omega)).trans (by rw [List.getElem?_append_right (by omega), hAl]; simp)
        have d8 : wr.cell? ⟨g, i * 13 + 8, none⟩ = some (.int .i64 y.p.mks.s) := (RS.cellAt _ (by omega)).trans (by rw [List.getElem?_append_right (by omega), hAl]; simp)
        have d9 : wr.cell? ⟨g, i * 13 + 9, none⟩ = some (.int .i64 y.p.mks.a) := (RS.cellAt _ (by omega)).trans (by rw [List.getElem?_append_right (by omega), hAl]; simp)
        have d10 : wr.cell? ⟨g, i * 13 + 10, none⟩ = some (.int .i64 y.p.mks.n) := (RS.cellAt _ (by omega)).trans (by rw [List.getElem?_append_right (by omega), hAl]; simp)
        have d11 : wr.cell? ⟨g, i * 13 + 11, none⟩ = some (y.vi) := (RS.cellAt _ (by omega)).trans (by rw [List.getElem?_append_right (by omega), hAl]; simp)
        have d12 : wr.cell? ⟨g, i * 13 + 12, none⟩ = some (y.vo) := (RS.cellAt _ (by omega)).trans (by rw [List.getElem?_append_right (by omega), hAl]; simp)
        have fg : ∀ j, wr.frozen? ⟨g, j, none⟩ = false := fun j => RS.frozenAt j
        have x0 : (0 : Int) ≤ (i : Int) := by omega
        have x1 : (i : Int) < (na : Int) := by omega
        clear RS hsplit hdr hy
        go_wp2_with fail
        have O4 := Hid.mk' (putL_only g [.int .i64 (-2), .int .i64 0, .int .i64 0, .int .i64 0, .float .f32 0, .float .f32 0, .int .i64 0, .int .i64 0, .int .i64 0, .int .i64 0, .int .i64 0, .slice none 0 0, .slice none 0 0] wr (i * 13))
        have W4 := Hid.mk' (putL_own [.int .i64 (-2), .int .i64 0, .int .i64 0, .int .i64 0, .float .f32 0, .float .f32 0, .int .i64 0, .int .i64 0, .int .i64 0, .int .i64 0, .int .i64 0, .slice none 0 0, .slice none 0 0] [.int .i64 y.p.kind, .int .i64 y.p.seq, .int .i64 y.p.it.sh, .int .i64 y.p.it.nu, .float .f32 y.p.it.pl, .float .f32 y.p.it.sp, .int .i64 y.p.mks.g, .int .i64 y.p.mks.m, .int .i64 y.p.mks.s, .int .i64 y.p.mks.a, .int .i64 y.p.mks.n, y.vi, y.vo] _ _ wr (i * 13) rfl hAl RSS.out)
        have E4 : (((((((((((((wr.setCell ⟨g, i * 13, none⟩ (.int .i64 (-2))).setCell ⟨g, i * 13 + 1, none⟩ (.int .i64 0)).setCell ⟨g, i * 13 + 2, none⟩ (.int .i64 0)).setCell ⟨g, i * 13 + 3, none⟩ (.int .i64 0)).setCell ⟨g, i * 13 + 4, none⟩ (.float .f32 0)).setCell ⟨g, i * 13 + 5, none⟩ (.float .f32 0)).setCell ⟨g, i * 13 + 6, none⟩ (.int .i64 0)).setCell ⟨g, i * 13 + 7, none⟩ (.int .i64 0)).setCell ⟨g, i * 13 + 8, none⟩ (.int .i64 0)).setCell ⟨g, i * 13 + 9, none⟩ (.int .i64 0)).setCell ⟨g, i * 13 + 10, none⟩ (.int .i64 0)).setCell ⟨g, i * 13 + 11, none⟩ (.slice none 0 0)).setCell ⟨g, i * 13 + 12, none⟩ (.slice none 0 0)) = putL wr g (i * 13) [.int .i64 (-2), .int .i64 0, .int .i64 0, .int .i64 0, .float .f32 0, .float .f32 0, .int .i64 0, .int .i64 0, .int .i64 0, .int .i64 0, .int .i64 0, .slice none 0 0, .slice none 0 0] := rfl
        rw [E4]
        clear E4 d0 d1 d2 d3 d4 d5 d6 d7 d8 d9 d10 d11 d12 fg
        generalize putL wr g (i * 13) [.int .i64 (-2), .int .i64 0, .int .i64 0, .int .i64 0, .float .f32 0, .float .f32 0, .int .i64 0, .int .i64 0, .int .i64 0, .int .i64 0, .int .i64 0, .slice none 0 0, .slice none 0 0] = w4 at *
        refine ⟨⟨i + 1, by omega, by go_num, MK.out.fill (O4.out.mono (fun j _ hj => by rw [hj]; rfl)), ?_⟩, by simp [intOf]; omega⟩
        have e : (List.replicate (i + 1) (mkRw (-2)) ++ qs.drop (i + 1)).flatMap Rw.cells = (List.replicate i (mkRw (-2))).flatMap Rw.cells ++ [.int .i64 (-2), .int .i64 0, .int .i64 0, .int .i64 0, .float .f32 0, .float .f32 0, .int .i64 0, .int .i64 0, .int .i64 0, .int .i64 0, .int .i64 0, .slice none 0 0, .slice none 0 0] ++ (qs.drop (i + 1)).flatMap Rw.cells := by
          rw [List.replicate_succ', List.flatMap_append, List.flatMap_append, List.flatMap_singleton]; rfl
        rw [e]
        exact W4.out
      · have hqn : i = na := by omega
        subst hqn
        rw [List.drop_of_length_le (by rw [HQ.out]; exact Nat.le_refl _), List.append_nil] at RQ
        have M0 := Hid.mk' (MK.out.more (Nat.zero_le i))
        have zr := MK.out.o.size
        clear MK
        go_wp2_with (at_builtin; refine wp_appK rfl _ _ 73 rfl 43 iO _ 1 24 Try.underlying73 hi hz0 hz1 hz2 rfl (by decide) B u5 ys.length (ys.map (·.1)) rfl (World.ownsRow.alloc M0.out.row _) ⟨wr.heap.size, 0, none⟩ [.slice aa i ca] rfl rfl (cells_new _ [.slice aa i ca] _ _ rfl) (by simp [Value.oneCell']) (by rw [hyl]; unfold maxLen; omega) (by rw [hyl]; omega) (by simp; omega) ?_; intro v1 w1 r1 g1 h1 k1)
        have MD := Hid.mk' (M0.out.down RQ.out g1 r1 h1)
        have z1 := g1.size
        simp at z1
        have YM : Hid (∀ t p, (ys ++ [((.slice aa i ca : Value), ((-2) : Int), i)])[t]? = some p → p.2.1 = -1 - ((t / 4 : Nat) : Int) ∧ p.2.2 ≤ 2000003) := ym_app HYM.out ⟨by rw [hyl]; rfl, by show i ≤ 2000003; omega⟩
        clear g1 r1 h1 k1 M0 RQ HYM
        go_loopw [5, 7, 9] (fun v l t wq => ∃ (r : Nat) (zs : List (Value × Int × Nat)), r ≤ 3 ∧ t = .int .i64 r ∧ zs.length = 4 + (r + 1) ∧ (∀ t p, zs[t]? = some p → p.2.1 = -1 - ((t / 4 : Nat) : Int) ∧ p.2.2 ≤ 2000003) ∧ Mrk w wq B F (Gq w (.slice af nf cf) (.slice aa i ca) 2) v l (i + r) zs ∧ wq.ownsRow B 32 13 l (i + r) ((List.replicate (i + r) (mkRw (-2))).flatMap Rw.cells)) (fun _ _ t _ => 3 - (intOf t).toNat)
        case atStart => exact ⟨0, _, by omega, rfl, by rw [List.length_append, hyl]; rfl, YM.out, MD.out.1, MD.out.2⟩
        case round =>
        clear MD YM
        obtain ⟨r, zs, hr, rfl, hzl, hzm, mk, rl⟩ := hrel
        have HZM := Hid.mk' hzm
        have MK := Hid.mk' mk
        have RL := Hid.mk' rl
        clear hzm mk rl
        have zr' := MK.out.o.size
        by_cases hlt3 : r < 3
        · go_wp2_with (first | (at_builtin; refine wp_appK rfl _ _ 43 rfl 32 iT _ 13 128 Try.underlying43 hiT hy0 hy1 hy2 rfl (by decide) B u7 (i + r) _ rfl (World.ownsRow.alloc RL.out _) ⟨wr.heap.size, 0, none⟩ (mkRw (-2)).cells rfl rfl (cells_new _ (mkRw (-2)).cells _ _ rfl) (by simp [Rw.cells, mkRw, Value.oneCell']) (by unfold maxLen; omega) (by omega) (by simp; omega) ?_; intro l2 w2 r2 g2 h2 k2; obtain ⟨a2, c2, rfl⟩ := slice_len r2; have M2 := Hid.mk' (MK.out.longer (fun j hj => .inl hj) g2 r2 h2 k2); have z2 := g2.size) | (at_builtin; refine wp_appK rfl _ _ 73 rfl 43 iO _ 1 24 Try.underlying73 hi hz0 hz1 hz2 rfl (by decide) B u5 zs.length (zs.map (·.1)) rfl (World.ownsRow.alloc M2.out.row _) ⟨w2.heap.size, 0, none⟩ [.slice a2 (i + r + 1) c2] rfl rfl (cells_new _ [.slice a2 (i + r + 1) c2] _ _ rfl) (by simp [Value.oneCell']) (by rw [hzl]; unfold maxLen; omega) (by rw [hzl]; omega) (by simp at z2; simp; omega) ?_; intro v3 w3 r3 g3 h3 k3))
          have L2 : w2.ownsRow B 32 13 (.slice a2 (i + r + 1) c2) (i + r + 1) ((List.replicate (i + r + 1) (mkRw (-2))).flatMap Rw.cells) := by
            rw [List.replicate_succ', List.flatMap_append, List.flatMap_singleton]
            exact r2
          have MD := M2.out.down L2 g3 r3 h3
          refine ⟨⟨r + 1, _, by omega, by go_num, ?_, ym_app HZM.out ⟨?_, by show i + r + 1 ≤ 2000003; omega⟩, MD.1, MD.2⟩, by simp [intOf]; omega⟩
          · rw [List.length_append, hzl]; rfl
          · show ((-2) : Int) = _
            rw [hzl, show (4 + (r + 1)) / 4 = 1 by omega]; rfl
        · have hr3 : r = 3 := by omega
          subst hr3
          go_wp2
          exact ⟨⟨2, zs, u7, i + 3, by omega, rfl, hzl, HZM.out, MK.out, fun h => by omega, fun h => by omega⟩, by simp [intOf]⟩

    · have MK := Hid.mk' hmk
      clear hrf hra hmk
      obtain ⟨g5, c5, rfl⟩ : ∃ g5 c5, u5 = .slice (some ⟨g5, 0, none⟩) 8 c5 := by
        have h8 : ys.length = 8 := hyl
        rcases MK.out.row.2 with ⟨_, h'⟩ | ⟨g, cap, cur, h', _⟩
        · omega
        · rw [h8] at h'; exact ⟨g, cap, h'⟩
      have CE : Hid (∀ (t : Nat) (p : Value × Int × Nat), ys[t]? = some p → wr.cell? ⟨g5, t, none⟩ = some p.1) := fun t p hp => by
        have hlt := (List.getElem?_eq_some_iff.1 hp).1
        have h8 : ys.length = 8 := hyl
        have hrow := MK.out.row
        rw [h8] at hrow
        exact (hrow.cellAt t (by omega)).trans (by rw [List.getElem?_map, hp]; rfl)
      go_wp2_with fail
      go_loopw [10] (fun t wq => ∃ i : Nat, i ≤ 8 ∧ t = .int .i64 i ∧ wq = wr) (fun t _ => 8 - (intOf t).toNat)
      case atStart => exact ⟨0, by omega, rfl, rfl⟩
      case round =>
      obtain ⟨i, hi8, rfl, rfl⟩ := hrel
      by_cases hlt : i < 8
      · obtain ⟨p, hp⟩ : ∃ p, ys[i]? = some p := ⟨_, List.getElem?_eq_getElem (by omega)⟩
        obtain ⟨hK, hnb⟩ := HYM.out i p hp
        have hce := CE.out i p hp
        obtain ⟨a, c, hpa, hx⟩ := MK.out.m p (List.mem_of_getElem? hp)
        rw [hpa] at hce
        obtain ⟨pv, K, n⟩ := p
        simp only at hK hnb hce hpa hx
        have HX := Hid.mk' hx
        clear hx hp hpa
        have x0 : (0 : Int) ≤ (i : Int) := by omega
        have x1 : (i : Int) < 8 := by omega
        have hdiv : (i : Int).tdiv 4 = ((i / 4 : Nat) : Int) := by rw [Int.tdiv_eq_ediv_of_nonneg (by omega)]; omega
        go_wp2_with fail
        go_loopw [11] (fun t wq => ∃ k : Nat, k ≤ n ∧ t = .int .i64 k ∧ wq = wr) (fun t _ => n - (intOf t).toNat)
        case atStart => exact ⟨0, by omega, rfl, rfl⟩
        case round =>
        obtain ⟨k, hkn, rfl, rfl⟩ := hrel
        by_cases hlk : k < n
        · obtain ⟨g, rfl, _, hcell⟩ := HX.out (by omega)
          have hk := hcell k hlk
          have y0 : (0 : Int) ≤ (k : Int) := by omega
          have y1 : (k : Int) < (n : Int) := by omega
          have hne : (K != -1 - ((i / 4 : Nat) : Int)) = false := by rw [hK]; simp
          clear hcell
          go_wp2_with fail
          exact ⟨⟨k + 1, by omega, by go_num, trivial⟩, by simp [intOf]; omega⟩
        · go_wp2_with fail
          exact ⟨⟨i + 1, by omega, by go_num, trivial⟩, by simp [intOf]; omega⟩
      · have hi8' : i = 8 := by omega
        subst hi8'
        go_wp2
        go_ret
        exact ⟨rfl, MK.out.o⟩

theorem lawMarks_any (B : Nat) (vf va : Value) (rs qs : List Rw) (w : World) (hf : w.ownsRow B 32 13 vf rs.length (rs.flatMap Rw.cells)) (ha : w.ownsRow B 32 13 va qs.length (qs.flatMap Rw.cells))
    (hB : B ≤ w.heap.size) (hsep : ∀ j, vf.ownBlock = some j → va.ownBlock ≠ some j) (hn : rs.length ≤ 2000000) (hn' : qs.length ≤ 2000000) :
    Calls Try.prog 19 #[vf, va] w fun e w' => e = .returned (.bool true) ∧ Only w w' (fun j => vf.ownBlock = some j ∨ va.ownBlock = some j) := by
  obtain ⟨af, cf, rfl⟩ := slice_len hf
  obtain ⟨aa, ca, rfl⟩ := slice_len ha
  exact marks_x B af aa _ cf _ ca rs qs w rfl rfl hf ha hB hsep hn hn'
end Go.Proofs.Ytammnaafdhhjaaa
