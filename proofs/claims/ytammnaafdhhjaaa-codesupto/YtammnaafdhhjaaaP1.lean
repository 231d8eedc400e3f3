/- Ytammnaafdhhjaaa: bytes put behind a slice. -/
import Derived.Test.YtammnaafdhhjaaaW6
import Derived.Deep.RegionLawGrows
namespace Go.Proofs.Ytammnaafdhhjaaa
open Go.RowKit

def n4 (n : Nat) : List UInt8 := [u8 (n / 16777216), u8 (n / 65536 % 256), u8 (n / 256 % 256), u8 (n % 256)]

theorem cells_u8 (W : World) (l : List UInt8) (n : Nat) (hn : W.heap.size = n) (vs : Array Value) (h : vs = (l.map by8).toArray) : ∀ j u, (l.map by8)[j]? = some u → (W.alloc (.cells vs 5)).cell? ((⟨n, 0, none⟩ : Addr).add j) = some u := by
  subst h; exact cells_new W _ _ n hn

set_option maxHeartbeats 1000000 in
theorem putFloat_any (B : Nat) (v : Value) (l : List UInt8) (n : Nat) (w : World) (hown : Own B w v l) (hB : B ≤ w.heap.size) (hl : l.length ≤ 900000) (h1 : n < 4294967296) :
    Calls Try.prog 75 #[v, .float .f32 n] w fun e w' => ∃ v', e = .returned v' ∧ Put B w w' v v' (l ++ n4 n) := by
  have HO : Hid (Own B w v l) := hown
  clear hown
  have hb := run_f32bits
  have h0 : (0 : Int) ≤ (n : Int) := by omega
  have h2 : (n : Int) ≤ 4294967295 := by omega
  have E : Hid (#[.int .u8 ((n : Int) / 16777216), .int .u8 ((n : Int) / 65536 % 256), .int .u8 ((n : Int) / 256 % 256), .int .u8 ((n : Int) % 256)] = ((n4 n).map by8).toArray) := by
    show _ = _
    simp only [n4, List.map_cons, List.map_nil]
    rw [by8_u8 _ (by omega) (by omega), by8_u8 _ (by omega) (by omega), by8_u8 _ (by omega) (by omega), by8_u8 _ (by omega) (by omega)]
  go_enter Try.func75, Try.ntmps75
  go_wp2_with (at_builtin; refine wp_app8 rfl _ _ rfl B _ l rfl (HO.out.alloc _) ⟨w.heap.size, 0, none⟩ 4 4 (n4 n) rfl rfl ?c1 ?c2 ?c3 ?c4)
  case c1 => exact cells_u8 w (n4 n) _ rfl _ E.out
  case c2 => omega
  case c3 => simp; omega
  case c4 =>
    intro v' w' hp
    go_wp2
    go_ret
    exact ⟨_, rfl, hp.pre (World.grownBy_alloc _ _ _)⟩

theorem Put.keep {B : Nat} {w w' : World} {v v' : Value} {l : List UInt8} (hp : Put B w w' v v' l) {k o : Nat} {u : Value} (h : w.cell? ⟨k, o, none⟩ = some u) (hk : v.ownBlock ≠ some k) : w'.cell? ⟨k, o, none⟩ = some u :=
  hp.g.cell h (fun e => hk e.symm)
theorem Own.fresh {B : Nat} {w : World} {v : Value} {l : List UInt8} (h : Own B w v l) {k : Nat} (hk : w.heap.size ≤ k) : v.ownBlock ≠ some k := fun e => by have := (h.lt k e).2; omega
/-- A block that the slice does not lie in is none of the new slice's, either. -/
theorem Put.far {B : Nat} {w w' : World} {v v' : Value} {l : List UInt8} (hp : Put B w w' v v' l) {k : Nat} (hk : v.ownBlock ≠ some k) (hlt : k < w.heap.size) : v'.ownBlock ≠ some k := by
  rcases hp.at_ with e | ⟨j, e, hj⟩
  · rw [e]; exact hk
  · rw [e]; intro h; injection h with h; omega

theorem step_app8 {ops : Array Oper} {o : Oper} {a : Act} {w : World} {K : Act → World → Prop} {Q : Exit → Act → World → Prop} {E : Prop}
    (hg : o.guard = none) (s x : Operand) (ho : o.op = .call { callee := .builtin .append, args := #[s, x], argTypes := #[58, 58] })
    (B : Nat) (v : Value) (l : List UInt8) (hs : a.eval s = v) (hown : Own B w v l) (ad : Addr) (m c : Nat) (news : List UInt8) (hx : a.eval x = .slice (some ad) m c) (hm : news.length = m)
    (hnews : ∀ j u, (news.map by8)[j]? = some u → w.cell? (ad.add j) = some u) (hl : l.length + m ≤ 1000000) (hB : B ≤ w.heap.size)
    (hK : ∀ v' w', Put B w w' v v' (l ++ news) → K (a.put o.dst v') w') :
    if Region.wanted o (yielded ops a.tmps) = true then Oper.wp Try.prog o a w K Q else E := by
  have hw : Region.wanted o (yielded ops a.tmps) = true := by simp [Region.wanted, hg]
  rw [if_pos hw]
  obtain ⟨i0, hi, hz0, hz1, hz2⟩ := Try.info5'
  obtain ⟨v', w', hr, h2, h3, _, h5⟩ := run_append_own_at (P := Try.prog) w B 58 o.type 5 i0 (.int .u8 0) 1 1 Try.underlying58 hi hz0 hz1 hz2 rfl (by decide) v l.length (l.map by8) hown ad m c (news.map by8) (by simp [hm]) hnews
    (by intro u hu; obtain ⟨y, _, rfl⟩ := List.mem_map.1 hu; rfl) (by unfold maxLen; omega) (by omega) hB
  unfold Oper.wp execOp
  simp only [ho, resolve, invoke, builtin, Sem.run_bind, Sem.run_pure, Result.andThen_ok, List.map_toArray, List.map_cons, List.map_nil, hs, hx, hr]
  refine hK v' w' ⟨?_, h3, ?_⟩
  · unfold Own; rw [List.length_append, hm, List.map_append]; exact h2
  · rcases h5 with e | e
    · exact .inl e
    · exact .inr ⟨_, e, Nat.le_refl _⟩

theorem putNumber_held (B : Nat) (v : Value) (l : List UInt8) (n : Int) (w : World) (hown : Own B w v l) (hB : B ≤ w.heap.size) (hl : l.length ≤ 900000) (h1 : 0 ≤ n) (h2 : n ≤ 65535) (k o p : Nat) (x y : Value) (hx : w.cell? ⟨k, o, none⟩ = some x) (hy : w.cell? ⟨k, p, none⟩ = some y) (hk : v.ownBlock ≠ some k) :
    Calls Try.prog 30 #[v, .int .i64 n] w fun e w' => ∃ v', e = .returned v' ∧ Put B w w' v v' (l ++ n2 n) ∧ w'.cell? ⟨k, o, none⟩ = some x ∧ w'.cell? ⟨k, p, none⟩ = some y := by
  refine (putNumber_any B v l n w hown hB hl h1 h2).mono ?_
  rintro e w' ⟨v', he, hp⟩
  exact ⟨v', he, hp, hp.keep hx hk, hp.keep hy hk⟩

set_option maxHeartbeats 1000000 in
theorem putID_any (B : Nat) (v : Value) (l : List UInt8) (s n : Int) (w : World) (hown : Own B w v l) (hB : B ≤ w.heap.size) (hl : l.length ≤ 800000) (h0 : 0 ≤ s) (h1 : s ≤ 255) (h2 : 0 ≤ n) (h3 : n ≤ 65535) :
    Calls Try.prog 55 #[v, .agg #[.int .i64 s, .int .i64 n]] w fun e w' => ∃ v', e = .returned v' ∧ Put B w w' v v' (l ++ [u8 s] ++ n2 n) := by
  have HO : Hid (Own B w v l) := hown
  clear hown
  have E : Hid (#[.int .u8 s] = (([u8 s]).map by8).toArray) := by
    show _ = _
    simp only [List.map_cons, List.map_nil]
    rw [by8_u8 _ (by omega) (by omega)]
  have hf := Hid.mk' (HO.out.fresh (Nat.le_refl _))
  have hw8 : IntKind.u8.wrap s = s := by rw [IntKind.wrap_u8']; omega
  go_enter Try.func55, Try.ntmps55
  go_wp2_with fail
  go_region_held3 (fun w' => w'.cell? ⟨w.heap.size, 0, none⟩ = some (.int .i64 s) ∧ w'.cell? ⟨w.heap.size, 1, none⟩ = some (.int .i64 n)) (go_keep)
    (first | (refine step_app8 rfl _ _ rfl B v l rfl ((HO.out.alloc _).alloc _) ⟨w.heap.size + 1, 0, none⟩ 1 1 [u8 s] rfl rfl (cells_u8 _ [u8 s] _ (by simp) _ E.out) (by omega) (by simp; omega) ?_; intro v1 w1 p1; have k0 : w1.cell? ⟨w.heap.size, 0, none⟩ = some (.int .i64 s) := p1.keep (by go_simp) hf.out; have k1 : w1.cell? ⟨w.heap.size, 1, none⟩ = some (.int .i64 n) := p1.keep (by go_simp) hf.out) | (go_at_call 30; refine Calls.mono (putNumber_held B v1 (l ++ [u8 s]) n w1 p1.own ?_ ?_ h2 h3 w.heap.size 0 1 (.int .i64 s) (.int .i64 n) k0 k1 ?_) ?_; (have := p1.g.size; simp at this; omega); (simp; omega); (exact p1.far hf.out (by simp; omega)); rintro e w2 ⟨v2, rfl, p2, q0, q1⟩))
  go_wp2
  go_ret
  exact ⟨_, rfl, (p1.pre (grownBy_drew (grownBy_alloc' (World.grownBy_alloc _ _ _) _))).trans p2⟩
end Go.Proofs.Ytammnaafdhhjaaa
