/- Ytammnaafdhhjaaa: a journal is scanned. -/
import Derived.Test.YtammnaafdhhjaaaD2
import Derived.Test.YtammnaafdhhjaaaS1
import Derived.WalkMore
import Derived.ScopeJumps
namespace Go.Proofs.Ytammnaafdhhjaaa
open Go.RowKit

theorem S_take (l : List UInt8) (n : Nat) : (S l).extract 0 n = S (l.take n) := by
  apply ByteArray.ext
  apply Array.toList_inj.1
  rw [Lib.extract_data]; simp [S]
theorem S_drop (l : List UInt8) (n : Nat) : (S l).extract n (S l).size = S (l.drop n) := by
  apply ByteArray.ext
  apply Array.toList_inj.1
  rw [Lib.extract_to_end]; simp [S]
/-- A whole frame at the front? -/
def frB (l : List UInt8) : Bool := decide (2 ≤ l.length) && decide (b2 l ≤ ((t2 l).length : Int))
def frame (l : List UInt8) : List UInt8 := (t2 l).take (b2 l).toNat

set_option maxHeartbeats 1000000 in
theorem framed_any (l : List UInt8) (w : World) (hl : l.length ≤ 1000000000) :
    Calls Try.prog 33 #[.string (S l)] w fun e w' => e = .returned (.tuple #[.string (if frB l then S (frame l) else S []), .bool (frB l)]) ∧ w.grownBy w' none := by
  have hz := S_size l
  have hz2 := S_size (t2 l)
  obtain ⟨h0, h1⟩ := b2_bd l
  have hl2 : (t2 l).length ≤ l.length := by rw [t2, t1_eq, t1_eq]; simp
  by_cases ha : l.length < 2
  · have E : frB l = false := by simp [frB]; intro h; omega
    rw [E]
    clear E
    go_enter Try.func33, Try.ntmps33
    go_wp2
    go_ret2
    exact ⟨ret2_of rfl rfl, grownBy_refl _ _⟩
  · by_cases hb : ((t2 l).length : Int) < b2 l
    · have E : frB l = false := by simp [frB]; intro h; omega
      rw [E]
      clear E
      have ha' : decide ((l.length : Int) < 2) = false := by simp; omega
      have hb' : decide (((t2 l).length : Int) < b2 l) = true := by simp; omega
      go_enter Try.func33, Try.ntmps33
      go_wp2_with fail
      refine Calls.mono (number_any l w.heap.size _ (by go_simp) (by go_simp)) ?_
      rintro e w1 ⟨rfl, r1⟩
      have hc := r1.c
      have G := Hid.mk' (grownBy_new (World.grownBy_alloc w _ none) r1.g (Nat.le_refl _))
      go_wp2
      go_ret2
      exact ⟨ret2_of rfl rfl, G.out⟩
    · have E : frB l = true := by simp [frB]; omega
      rw [E]
      clear E
      have ha' : decide ((l.length : Int) < 2) = false := by simp; omega
      have hb' : decide (((t2 l).length : Int) < b2 l) = false := by simp; omega
      have hb2 : b2 l ≤ ((t2 l).length : Int) := by omega
      go_enter Try.func33, Try.ntmps33
      go_wp2_with fail
      refine Calls.mono (number_any l w.heap.size _ (by go_simp) (by go_simp)) ?_
      rintro e w1 ⟨rfl, r1⟩
      have hc := r1.c
      have G := Hid.mk' (grownBy_new (World.grownBy_alloc w _ none) r1.g (Nat.le_refl _))
      go_wp2
      go_ret2
      exact ⟨ret2_of (by show _ = Value.string (S (frame l)); rw [frame, ← S_take]; rfl) rfl, G.out⟩

/-- How many records a scan takes, and how many bytes: with so many rounds at most. -/
def scanF : Nat → List UInt8 → Nat × Nat
  | 0, _ => (0, 0)
  | f + 1, l => if frB l = true ∧ decB (frame l) = true then (1 + (scanF f (l.drop (2 + (frame l).length))).1, 2 + (frame l).length + (scanF f (l.drop (2 + (frame l).length))).2) else (0, 0)
def scanC (l : List UInt8) : Nat × Nat := scanF l.length l
theorem scanF_same (f g : Nat) (l : List UInt8) (hf : l.length ≤ f) (hg : l.length ≤ g) : scanF f l = scanF g l := by
  induction f generalizing g l with
  | zero =>
    have hl : l = [] := List.eq_nil_of_length_eq_zero (by omega)
    subst hl
    cases g with
    | zero => rfl
    | succ g => show _ = if _ then _ else _; rw [if_neg (by simp [frB])]; rfl
  | succ f ih =>
    cases g with
    | zero =>
      have hl : l = [] := List.eq_nil_of_length_eq_zero (by omega)
      subst hl
      show (if _ then _ else _) = _
      rw [if_neg (by simp [frB])]; rfl
    | succ g =>
      show (if _ then _ else _) = if _ then _ else _
      by_cases h : frB l = true ∧ decB (frame l) = true
      · rw [if_pos h, if_pos h, ih g (l.drop (2 + (frame l).length)) (by rw [List.length_drop]; omega) (by rw [List.length_drop]; omega)]
      · rw [if_neg h, if_neg h]

theorem infoRecord : ∃ i, Try.prog.info? 32 = some i ∧ i.zero = some zeroV ∧ i.size = 13 ∧ i.bytes = 128 := info_parts (by kernel_rfl)

theorem wp_appR {w : World} {ops : Array Oper} {rest : List Oper} {o : Oper} {a : Act} {Q : Exit → Act → World → Prop} (hgd : o.guard = none) (s x : Operand)
    (ho : o.op = .call { callee := .builtin .append, args := #[s, x], argTypes := #[43, 43] })
    (B : Nat) (v : Value) (n : Nat) (xs : List Value) (hs : a.eval s = v) (hown : w.ownsRow B 32 13 v n xs) (ad : Addr) (news : List Value) (hx : a.eval x = .slice (some ad) 1 1) (hln : news.length = 13)
    (hnews : ∀ j u, news[j]? = some u → w.cell? (ad.add j) = some u) (h1 : ∀ u ∈ news, u.oneCell' = true) (hl : n + 1 ≤ 1000000001) (hB : B ≤ w.heap.size)
    (h : ∀ v' w', w'.ownsRow B 32 13 v' (n + 1) (xs ++ news) → w.grownBy w' v.ownBlock → (v'.ownBlock = v.ownBlock ∨ v'.ownBlock = some w.heap.size) → wpList Try.prog ops Q rest (a.put o.dst v') w') : wpList Try.prog ops Q (o :: rest) a w := by
  obtain ⟨i0, hi, hz0, hz1, hz2⟩ := infoRecord
  refine wpList_append_own_at w hgd s x _ ho B 32 i0 _ 13 128 Try.underlying43 hi hz0 hz1 hz2 rfl (by decide) v n xs hs hown ad 1 1 news hx hln hnews h1 ?_ ?_ hB ?_
  · unfold maxLen; omega
  · omega
  · intro v' w' g1 g2 _ g4
    exact h v' w' g1 g2 g4

theorem grownBy_row {w W w' : World} {v : Value} (g : W.grownBy w' v.ownBlock) (h : w.grownBy W none) (hv : ∀ j, v.ownBlock = some j → w.heap.size ≤ j) : w.grownBy w' none :=
  ⟨g.os.trans h.os, g.tape.trans h.tape, g.output.trans h.output, Nat.le_trans h.size g.size, fun k hk _ => by
    have hz := h.size
    rw [g.block k (by omega) (fun e => by have := hv k e.symm; omega), h.block k hk (by simp)]⟩

theorem scanC_no (l : List UInt8) (h : ¬ (frB l = true ∧ decB (frame l) = true)) : scanC l = (0, 0) := by
  unfold scanC
  cases l.length with
  | zero => rfl
  | succ f => show (if _ then _ else _) = _; rw [if_neg h]
theorem scanC_yes (l : List UInt8) (h : frB l = true ∧ decB (frame l) = true) : scanC l = (1 + (scanC (l.drop (2 + (frame l).length))).1, 2 + (frame l).length + (scanC (l.drop (2 + (frame l).length))).2) := by
  have h2 : 2 ≤ l.length := by have := h.1; simp [frB] at this; exact this.1
  obtain ⟨f, hf⟩ : ∃ f, l.length = f + 1 := ⟨l.length - 1, by omega⟩
  have e : scanF f (l.drop (2 + (frame l).length)) = scanC (l.drop (2 + (frame l).length)) := scanF_same _ _ _ (by rw [List.length_drop]; omega) (Nat.le_refl _)
  rw [← e]
  unfold scanC
  rw [hf]
  show (if _ then _ else _) = _
  rw [if_pos h]
theorem frame_len (l : List UInt8) (h : frB l = true) : 2 + (frame l).length ≤ l.length := by
  simp [frB] at h
  simp [frame, t2, t1_eq]
  omega

set_option maxHeartbeats 2000000 in
theorem scan_any (l : List UInt8) (w : World) (hl : l.length ≤ 1000000000) :
    Calls Try.prog 16 #[.string (S l)] w fun e w' => ∃ v xs, e = .returned (.tuple #[v, .int .i64 (scanC l).2]) ∧ w'.ownsRow w.heap.size 32 13 v (scanC l).1 xs ∧ w.grownBy w' none := by
  have hz := S_size l
  have hsf := run_store_float
  go_enter Try.func16, Try.ntmps16
  go_wp2
  go_step3
  go_wp2
  go_step3
  go_wp2
  go_loopw [4, 5] (fun v i wr => ∃ (k n : Nat) (xs : List Value), i = .int .i64 n ∧ n ≤ l.length ∧ k ≤ n ∧ w.grownBy wr none ∧ wr.ownsRow w.heap.size 32 13 v k xs ∧ scanC l = (k + (scanC (l.drop n)).1, n + (scanC (l.drop n)).2)) (fun _ i _ => l.length - (intOf i).toNat)
  case atStart => exact ⟨0, 0, [], rfl, by omega, by omega, grownBy_refl _ _, World.ownsRow_nil _ _ _ _, by simp⟩
  case round =>
    obtain ⟨k, n, xs, rfl, hn, hk, gk, ok, hs⟩ := hrel
    have HS := Hid.mk' hs
    have OK := Hid.mk' ok
    clear hs ok
    have hx : (S l).extract n l.length = S (l.drop n) := by rw [← hz]; exact S_drop l n
    have hd : Hid (∀ m, (l.drop n).drop m = l.drop (n + m)) := fun m => by rw [List.drop_drop]
    have hdl : (l.drop n).length = l.length - n := List.length_drop
    obtain ⟨L, hL⟩ : ∃ L, l.drop n = L := ⟨_, rfl⟩
    rw [hL] at hx hd hdl HS
    clear hL
    go_wp2_with fail
    refine Calls.mono (framed_any L _ (by omega)) ?_
    rintro e w1 ⟨rfl, g1⟩
    cases hF : frB L
    · have e0 := scanC_no L (by rw [hF]; simp)
      rw [e0] at HS
      clear e0
      go_wp2_with fail
      rw [Exit.noGoto_ret]
      go_ret2
      refine ⟨u4, xs, ret2_of rfl ?_, ?_, gk.trans g1⟩
      · rw [HS.out]; rfl
      · rw [HS.out]; exact own_grown OK.out g1
    · have hfl := frame_len L hF
      have hF' : (if (true : Bool) = true then S (frame L) else S []) = S (frame L) := rfl
      rw [hF']
      clear hF'
      go_wp2_with fail
      refine Calls.mono (decode_any (frame L) _) ?_
      rintro e w2 ⟨g2, (⟨hd0, rfl⟩ | ⟨hd1, vi, vo, rfl, oi, oo, _⟩)⟩
      · have e0 := scanC_no L (by rw [hd0]; simp)
        rw [e0] at HS
        clear e0
        unfold zeroV rv
        go_wp2_with fail
        rw [Exit.noGoto_ret]
        go_ret2
        refine ⟨u4, xs, ret2_of rfl ?_, ?_, ?_⟩
        · rw [HS.out]; rfl
        · rw [HS.out]; exact own_grown OK.out (grownBy_alloc' (g1.trans g2) _)
        · exact grownBy_alloc' ((gk.trans g1).trans g2) _
      · have e1 := scanC_yes L ⟨hF, hd1⟩
        rw [e1] at HS
        clear e1 hd1
        obtain ⟨ai, ni, ci, rfl⟩ := slice_of oi
        obtain ⟨ao, no, co, rfl⟩ := slice_of oo
        clear oi oo
        have hfz := S_size (frame L)
        generalize dec (frame L) = p
        unfold rv
        have z12 : wr.heap.size ≤ w2.heap.size := Nat.le_trans g1.size g2.size
        have zk := gk.size
        have o2 : Hid (w2.ownsRow w.heap.size 32 13 u4 k xs) := own_grown (own_grown OK.out g1) g2
        have g02 := Hid.mk' ((gk.trans g1).trans g2)
        have hv : Hid (∀ j, u4.ownBlock = some j → w.heap.size ≤ j) := fun j hj => (o2.out.lt j hj).1
        go_wp2_with (at_builtin; refine wp_appR rfl _ _ rfl w.heap.size u4 k xs rfl (World.ownsRow.alloc (World.ownsRow.alloc o2.out _) _) ⟨w2.heap.size + 1, 0, none⟩ [.int .i64 p.kind, .int .i64 p.seq, .int .i64 p.it.sh, .int .i64 p.it.nu, .float .f32 p.it.pl, .float .f32 p.it.sp, .int .i64 p.mks.g, .int .i64 p.mks.m, .int .i64 p.mks.s, .int .i64 p.mks.a, .int .i64 p.mks.n, .slice ai ni ci, .slice ao no co] rfl rfl ?c1 ?c2 ?c3 ?c4 ?c5)
        case c1 => exact cells_new _ _ _ _ (by simp)
        case c2 => simp [Value.oneCell']
        case c3 => omega
        case c4 => simp; omega
        case c5 =>
        intro v' w3 o3 g3 _
        have g03 : w.grownBy w3 none := grownBy_row g3 (grownBy_alloc' (grownBy_alloc' g02.out _) _) hv.out
        go_wp2
        refine ⟨⟨k + 1, n + (2 + (frame L).length), _, by go_num, by omega, by omega, g03, o3, ?_⟩, by simp [intOf]; omega⟩
        rw [HS.out, hd.out]
        refine Prod.ext ?_ ?_
        · show k + (1 + _) = k + 1 + _; omega
        · show n + (2 + (frame L).length + _) = n + (2 + (frame L).length) + _; omega
end Go.Proofs.Ytammnaafdhhjaaa
