/- Ytammnaafdhhjaaa: the reader's lists. -/
import Derived.Test.YtammnaafdhhjaaaW2
namespace Go.Proofs.Ytammnaafdhhjaaa
open Go.RowKit

def OwnI (B : Nat) (w : World) (v : Value) (is : List It) : Prop := w.ownsRow B 26 4 v is.length (is.flatMap It.cells)
def OwnE (B : Nat) (w : World) (v : Value) (es : List En) : Prop := w.ownsRow B 62 5 v es.length (es.flatMap En.cells)
theorem OwnI.nil (B : Nat) (w : World) : OwnI B w (.slice none 0 0) [] := World.ownsRow_nil w B _ 4
theorem OwnE.nil (B : Nat) (w : World) : OwnE B w (.slice none 0 0) [] := World.ownsRow_nil w B _ 5
theorem infoItem : ∃ i, Try.prog.info? 26 = some i ∧ i.zero = some (.agg #[.int .i64 0, .int .i64 0, .float .f32 0, .float .f32 0]) ∧ i.size = 4 ∧ i.bytes = 24 := info_parts (by kernel_rfl)
theorem infoEntry : ∃ i, Try.prog.info? 62 = some i ∧ i.zero = some (.agg #[.int .i64 0, .int .i64 0, .int .i64 0, .float .f32 0, .float .f32 0]) ∧ i.size = 5 ∧ i.bytes = 32 := info_parts (by kernel_rfl)

theorem flat_len4 (is : List It) : (is.flatMap It.cells).length = is.length * 4 := by
  induction is with
  | nil => rfl
  | cons i t ih => rw [List.flatMap_cons, List.length_append, ih]; simp [It.cells]; omega
theorem flat_len5 (is : List En) : (is.flatMap En.cells).length = is.length * 5 := by
  induction is with
  | nil => rfl
  | cons i t ih => rw [List.flatMap_cons, List.length_append, ih]; simp [En.cells]; omega

theorem wp_appI {w : World} {ops : Array Oper} {rest : List Oper} {o : Oper} {a : Act} {Q : Exit → Act → World → Prop} (hgd : o.guard = none) (s x : Operand)
    (ho : o.op = .call { callee := .builtin .append, args := #[s, x], argTypes := #[29, 29] })
    (B : Nat) (v : Value) (l : List It) (hs : a.eval s = v) (hown : OwnI B w v l) (ad : Addr) (i : It) (hx : a.eval x = .slice (some ad) 1 1)
    (hnews : ∀ j u, i.cells[j]? = some u → w.cell? (ad.add j) = some u) (hl : l.length + 1 ≤ 1000000) (hB : B ≤ w.heap.size)
    (h : ∀ v' w', OwnI B w' v' (l ++ [i]) → w.grownBy w' v.ownBlock → (v'.ownBlock = v.ownBlock ∨ v'.ownBlock = some w.heap.size) → wpList Try.prog ops Q rest (a.put o.dst v') w') : wpList Try.prog ops Q (o :: rest) a w := by
  obtain ⟨i0, hi, hz0, hz1, hz2⟩ := infoItem
  refine wpList_append_own_at w hgd s x _ ho B 26 i0 _ 4 24 Try.underlying29 hi hz0 hz1 hz2 rfl (by decide) v l.length (l.flatMap It.cells) hs hown ad 1 1 i.cells hx rfl hnews ?_ ?_ ?_ hB ?_
  · intro u hu; simp [It.cells] at hu; rcases hu with rfl | rfl | rfl | rfl <;> rfl
  · unfold maxLen; omega
  · omega
  · intro v' w' h1 h2 _ h4
    refine h v' w' ?_ h2 h4
    unfold OwnI; rw [List.length_append, List.flatMap_append]; simpa using h1

theorem wp_appE {w : World} {ops : Array Oper} {rest : List Oper} {o : Oper} {a : Act} {Q : Exit → Act → World → Prop} (hgd : o.guard = none) (s x : Operand)
    (ho : o.op = .call { callee := .builtin .append, args := #[s, x], argTypes := #[30, 30] })
    (B : Nat) (v : Value) (l : List En) (hs : a.eval s = v) (hown : OwnE B w v l) (ad : Addr) (i : En) (hx : a.eval x = .slice (some ad) 1 1)
    (hnews : ∀ j u, i.cells[j]? = some u → w.cell? (ad.add j) = some u) (hl : l.length + 1 ≤ 1000000) (hB : B ≤ w.heap.size)
    (h : ∀ v' w', OwnE B w' v' (l ++ [i]) → w.grownBy w' v.ownBlock → (v'.ownBlock = v.ownBlock ∨ v'.ownBlock = some w.heap.size) → wpList Try.prog ops Q rest (a.put o.dst v') w') : wpList Try.prog ops Q (o :: rest) a w := by
  obtain ⟨i0, hi, hz0, hz1, hz2⟩ := infoEntry
  refine wpList_append_own_at w hgd s x _ ho B 62 i0 _ 5 32 Try.underlying30 hi hz0 hz1 hz2 rfl (by decide) v l.length (l.flatMap En.cells) hs hown ad 1 1 i.cells hx rfl hnews ?_ ?_ ?_ hB ?_
  · intro u hu; simp [En.cells] at hu; rcases hu with rfl | rfl | rfl | rfl | rfl <;> rfl
  · unfold maxLen; omega
  · omega
  · intro v' w' h1 h2 _ h4
    refine h v' w' ?_ h2 h4
    unfold OwnE; rw [List.length_append, List.flatMap_append]; simpa using h1

def tItN : Nat → List UInt8 → List UInt8
  | 0, l => l
  | k + 1, l => tIt (tItN k l)
def pItN : Nat → List UInt8 → List It
  | 0, _ => []
  | k + 1, l => pItN k l ++ [pIt (tItN k l)]
theorem pItN_len (k : Nat) (l : List UInt8) : (pItN k l).length = k := by induction k with
  | zero => rfl
  | succ k ih => simp [pItN, ih]
def pEn (l : List UInt8) : En := ⟨b2 l, pIt (t2 l)⟩
def tEn (l : List UInt8) : List UInt8 := tIt (t2 l)
def tEnN : Nat → List UInt8 → List UInt8
  | 0, l => l
  | k + 1, l => tEn (tEnN k l)
def pEnN : Nat → List UInt8 → List En
  | 0, _ => []
  | k + 1, l => pEnN k l ++ [pEn (tEnN k l)]
theorem pEnN_len (k : Nat) (l : List UInt8) : (pEnN k l).length = k := by induction k with
  | zero => rfl
  | succ k ih => simp [pEnN, ih]

/-- The cells of a block that was just laid. -/
theorem cells_new (W : World) (vs : List Value) (t : TypeId) (n : Nat) (hn : W.heap.size = n) : ∀ j u, vs[j]? = some u → (W.alloc (.cells vs.toArray t)).cell? ((⟨n, 0, none⟩ : Addr).add j) = some u := by
  intro j u hu
  subst hn
  have hadd : (⟨W.heap.size, 0, none⟩ : Addr).add j = ⟨W.heap.size, j, none⟩ := by unfold Addr.add; split <;> simp_all
  rw [hadd, cell_of_row _ W.heap.size j vs.toArray t (0, 0) (heap_alloc_new W _)]
  simpa using hu

/-- A row of the call's own stays as it is while the reader's block turns. -/
theorem own_rd {B : Nat} {e : TypeId} {size : Nat} {v : Value} {n : Nat} {xs : List Value} {b : Nat} {w w' : World} {l : List UInt8} (h : w.ownsRow B e size v n xs) (r : Rd b w w' l) (hb : b < B) : w'.ownsRow B e size v n xs := by
  refine h.kept r.g ?_
  cases hv : v.ownBlock with
  | none => exact .inl rfl
  | some k => have := (h.lt k hv).1; exact .inr (by intro e; injection e with e; omega)
/-- An append to a row of the call's own, behind what the reader left. -/
theorem Rd.app {b : Nat} {w w1 w2 : World} {l : List UInt8} {v : Value} (r : Rd b w w1 l) (g : w1.grownBy w2 v.ownBlock) (hv : ∀ k, v.ownBlock = some k → w.heap.size ≤ k) (hb : b < w.heap.size) : Rd b w w2 l := by
  have hne : ∀ k, k < w.heap.size → some k ≠ v.ownBlock := fun k hk e => by have := hv k e.symm; omega
  have hz := r.g.size
  have hbl := g.block b (by omega) (hne b hb)
  refine ⟨⟨g.os.trans r.g.os, g.tape.trans r.g.tape, g.output.trans r.g.output, Nat.le_trans r.g.size g.size, fun i hi hni => ?_⟩, (World.cell?_of_block (a := ⟨b, 0, none⟩) hbl).trans r.c, (World.frozen?_of_block (a := ⟨b, 0, none⟩) hbl).trans r.f⟩
  rw [g.block i (by omega) (hne i hi), r.g.block i hi hni]

set_option maxHeartbeats 1000000 in
theorem items_any (l : List UInt8) (n : Nat) (hn : Hid (b1 l = (n : Int))) (b : Nat) (w : World) (h : w.cell? ⟨b, 0, none⟩ = some (.string (S l))) (hf : w.frozen? ⟨b, 0, none⟩ = false) :
    Calls Try.prog 65 #[.pointer (some ⟨b, 0, none⟩)] w fun e w' => ∃ v, e = .returned v ∧ Rd b w w' (tItN n (t1 l)) ∧ OwnI w.heap.size w' v (pItN n (t1 l)) := by
  have hb : b < w.heap.size := World.block_lt_of_cell? w _ h
  have hn1 : n ≤ 255 := by have := (b1_bd l).2; rw [hn.out] at this; omega
  go_enter Try.func65, Try.ntmps65
  go_wp2_with fail
  refine Calls.mono (oneByte_any l b _ ?_ ?_) ?_
  · go_simp
  · go_simp
  rintro e w1 ⟨rfl, r1⟩
  rw [hn.out]
  go_wp2_with fail
  go_loopw [3, 6] (fun v i wr => ∃ k : Nat, k ≤ n ∧ i = .int .i64 k ∧ Rd b w wr (tItN k (t1 l)) ∧ OwnI w.heap.size wr v (pItN k (t1 l))) (fun _ i _ => n - (intOf i).toNat)
  case atStart => exact ⟨0, Nat.zero_le _, rfl, r1, OwnI.nil _ _⟩
  case round =>
    obtain ⟨k, hk, rfl, rk, ok⟩ := hrel
    have zk := rk.size
    by_cases hlt : k < n
    · go_wp2_with fail
      refine Calls.mono (thing_any (tItN k (t1 l)) b _ rk.c rk.f) ?_
      rintro e w2 ⟨rfl, r2⟩
      have z2 := r2.size
      have o2 : Hid (OwnI w.heap.size w2 _ (pItN k (t1 l))) := own_rd ok r2 hb
      have hv : Hid (∀ j, Value.ownBlock _ = some j → w.heap.size ≤ j) := fun j hj => (o2.out.lt j hj).1
      go_wp2_with (at_builtin; refine wp_appI rfl _ _ rfl w.heap.size _ (pItN k (t1 l)) rfl (World.ownsRow.alloc o2.out _) ⟨w2.heap.size, 0, none⟩ (pIt (tItN k (t1 l))) rfl ?c1 ?c2 ?c3 ?c4)
      case c1 => exact cells_new w2 (pIt (tItN k (t1 l))).cells _ _ rfl
      case c2 => rw [pItN_len]; omega
      case c3 => simp; omega
      case c4 =>
        intro v' w3 o3 g3 _
        go_wp2
        go_roundw
        case rel => exact ⟨k + 1, by omega, by go_num, ((rk.trans r2).alloc _).app g3 hv.out hb, o3⟩
        case measure => simp [intOf]; omega
    · have hkn : k = n := by omega
      go_wp2
      go_ret
      exact ⟨_, rfl, hkn ▸ rk, hkn ▸ ok⟩

theorem own_store {B : Nat} {e : TypeId} {size : Nat} {v : Value} {n : Nat} {xs : List Value} {w : World} (h : w.ownsRow B e size v n xs) (k o : Nat) (u : Value) (hk : v.ownBlock ≠ some k) : (w.setCell ⟨k, o, none⟩ u).ownsRow B e size v n xs := by
  refine h.kept (grownBy_setCell w k o u) (.inr hk)

set_option maxHeartbeats 2000000 in
theorem outbox_any (l : List UInt8) (n : Nat) (hn : Hid (b1 l = (n : Int))) (b : Nat) (w : World) (h : w.cell? ⟨b, 0, none⟩ = some (.string (S l))) (hf : w.frozen? ⟨b, 0, none⟩ = false) :
    Calls Try.prog 66 #[.pointer (some ⟨b, 0, none⟩)] w fun e w' => ∃ v, e = .returned v ∧ Rd b w w' (tEnN n (t1 l)) ∧ OwnE w.heap.size w' v (pEnN n (t1 l)) := by
  have hb : b < w.heap.size := World.block_lt_of_cell? w _ h
  have hn1 : n ≤ 255 := by have := (b1_bd l).2; rw [hn.out] at this; omega
  have hsf := run_store_float
  go_enter Try.func66, Try.ntmps66
  go_wp2_with fail
  refine Calls.mono (oneByte_any l b _ ?_ ?_) ?_
  · go_simp
  · go_simp
  rintro e w1 ⟨rfl, r1⟩
  rw [hn.out]
  go_wp2_with fail
  go_loopw [3, 7] (fun v i wr => ∃ k : Nat, k ≤ n ∧ i = .int .i64 k ∧ Rd b w wr (tEnN k (t1 l)) ∧ OwnE w.heap.size wr v (pEnN k (t1 l))) (fun _ i _ => n - (intOf i).toNat)
  case atStart => exact ⟨0, Nat.zero_le _, rfl, r1, OwnE.nil _ _⟩
  case round =>
    obtain ⟨k, hk, rfl, rk, ok⟩ := hrel
    have zk := rk.size
    by_cases hlt : k < n
    · have hck := rk.c
      have hfk := rk.f
      generalize hL : tEnN k (t1 l) = L at *
      have HL : Hid (tEnN k (t1 l) = L) := hL
      clear hL
      have OK : Hid (OwnE w.heap.size wr u3 (pEnN k (t1 l))) := ok
      clear ok
      have hvk : Hid (∀ j, u3.ownBlock = some j → w.heap.size ≤ j ∧ j < wr.heap.size) := fun j hj => OK.out.lt j hj
      have hbr : b < wr.heap.size := by omega
      go_wp2_with fail
      refine Calls.mono (number_any L b _ ?_ ?_) ?_
      · go_simp
      · go_simp
      rintro e w2 ⟨rfl, r2⟩
      have z2 := r2.size
      simp at z2
      have c20 : w2.cell? ⟨wr.heap.size, 0, none⟩ = some (.int .i64 0) := r2.keep (by go_simp) (by omega)
      have c21 : w2.cell? ⟨wr.heap.size, 1, none⟩ = some (.int .i64 0) := r2.keep (by go_simp) (by omega)
      have c22 : w2.cell? ⟨wr.heap.size, 2, none⟩ = some (.int .i64 0) := r2.keep (by go_simp) (by omega)
      have c23 : w2.cell? ⟨wr.heap.size, 3, none⟩ = some (.float .f32 0) := r2.keep (by go_simp) (by omega)
      have c24 : w2.cell? ⟨wr.heap.size, 4, none⟩ = some (.float .f32 0) := r2.keep (by go_simp) (by omega)
      have f2 : ∀ o, w2.frozen? ⟨wr.heap.size, o, none⟩ = false := r2.thaw (fun o => by go_simp) (by simp) (by omega)
      have hc2 := r2.c
      have hf2 := r2.f
      go_wp2_with fail
      refine Calls.mono (thing_any (t2 L) b _ ?_ ?_) ?_
      · go_simp
      · go_simp
      rintro e w3 ⟨rfl, r3⟩
      have z3 := r3.size
      simp at z3
      have c30 : w3.cell? ⟨wr.heap.size, 0, none⟩ = some (.int .i64 (b2 L)) := r3.keep (by go_simp) (by omega)
      have c31 : w3.cell? ⟨wr.heap.size, 1, none⟩ = some (.int .i64 0) := r3.keep (by go_simp) (by omega)
      have c32 : w3.cell? ⟨wr.heap.size, 2, none⟩ = some (.int .i64 0) := r3.keep (by go_simp) (by omega)
      have c33 : w3.cell? ⟨wr.heap.size, 3, none⟩ = some (.float .f32 0) := r3.keep (by go_simp) (by omega)
      have c34 : w3.cell? ⟨wr.heap.size, 4, none⟩ = some (.float .f32 0) := r3.keep (by go_simp) (by omega)
      have f3 : ∀ o, w3.frozen? ⟨wr.heap.size, o, none⟩ = false := r3.thaw (fun o => by go_simp) (by simp; omega) (by omega)
      clear c20 c21 c22 c23 c24 f2 hc2 hf2 hck hfk
      have hvn : Hid (u3.ownBlock ≠ some wr.heap.size) := by
        intro e; have := (hvk.out _ e).2; omega
      have o2 : Hid (OwnE w.heap.size w2 u3 (pEnN k (t1 l))) := own_rd (World.ownsRow.alloc OK.out _) r2 hb
      have o3 : Hid (OwnE w.heap.size w3 u3 (pEnN k (t1 l))) := own_rd (own_store o2.out _ _ _ hvn.out) r3 hb
      have R2 := r2.pre (rk.alloc _).g
      have R3 := r3.pre (R2.store hb (k := wr.heap.size) (by omega) 0 (.int .i64 (b2 L))).g
      have hc3 := r3.c
      have hf3 := r3.f
      go_wp2_with (at_builtin; refine wp_appE rfl _ _ rfl w.heap.size u3 (pEnN k (t1 l)) rfl (World.ownsRow.alloc (own_store (own_store (own_store (own_store o3.out _ _ _ hvn.out) _ _ _ hvn.out) _ _ _ hvn.out) _ _ _ hvn.out) _) ⟨w3.heap.size, 0, none⟩ (pEn L) rfl ?c1 ?c2 ?c3 ?c4)
      case c1 => exact cells_new _ (pEn L).cells _ _ (by simp)
      case c2 => rw [pEnN_len]; omega
      case c3 => simp; omega
      case c4 =>
        intro v' w4 o4 g4 _
        have R4 := ((((R3.store hb (k := wr.heap.size) (by omega) 1 (.int .i64 (pIt (t2 L)).sh)).store hb (k := wr.heap.size) (by omega) 2 (.int .i64 (pIt (t2 L)).nu)).store hb (k := wr.heap.size) (by omega) 3 (.float .f32 (pIt (t2 L)).pl)).store hb (k := wr.heap.size) (by omega) 4 (.float .f32 (pIt (t2 L)).sp)).alloc _ |>.app g4 (fun j hj => (hvk.out j hj).1) hb
        go_wp2
        go_roundw
        case rel => exact ⟨k + 1, by omega, by go_num, by show Rd b w w4 (tEn (tEnN k (t1 l))); rw [HL.out]; exact R4, by show OwnE _ _ _ (pEnN k (t1 l) ++ [pEn (tEnN k (t1 l))]); rw [HL.out]; exact o4⟩
        case measure => simp [intOf]; omega
    · have hkn : k = n := by omega
      go_wp2
      go_ret
      exact ⟨_, rfl, hkn ▸ rk, hkn ▸ ok⟩
end Go.Proofs.Ytammnaafdhhjaaa
