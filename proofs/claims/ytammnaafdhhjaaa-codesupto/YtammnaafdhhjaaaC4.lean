/- Ytammnaafdhhjaaa: what a call leaves alone; an append that leaves what stands there. -/
import Derived.Test.YtammnaafdhhjaaaJC1
import Derived.ArgAppend
namespace Go.Proofs.Ytammnaafdhhjaaa
open Go.RowKit

/-- Of the old blocks only those of A may have turned. -/
structure Only (w w' : World) (A : Nat → Prop) : Prop where
  os : w'.os = w.os
  tape : w'.tape = w.tape
  output : w'.output = w.output
  size : w.heap.size ≤ w'.heap.size
  block : ∀ k, k < w.heap.size → ¬ A k → w'.heap[k]? = w.heap[k]?
theorem Only.refl (w : World) (A : Nat → Prop) : Only w w A := ⟨rfl, rfl, rfl, Nat.le_refl _, fun _ _ _ => rfl⟩
theorem Only.trans {w w1 w2 : World} {A : Nat → Prop} (h : Only w w1 A) (h' : Only w1 w2 (fun k => A k ∨ w.heap.size ≤ k)) : Only w w2 A :=
  ⟨h'.os.trans h.os, h'.tape.trans h.tape, h'.output.trans h.output, Nat.le_trans h.size h'.size, fun k hk hn => by
    have hz := h.size
    rw [h'.block k (by omega) (fun e => by rcases e with e | e; exact hn e; omega), h.block k hk hn]⟩
theorem Only.mono {w w' : World} {A A' : Nat → Prop} (h : Only w w' A) (hA : ∀ k, k < w.heap.size → A k → A' k) : Only w w' A' :=
  ⟨h.os, h.tape, h.output, h.size, fun k hk hn => h.block k hk (fun e => hn (hA k hk e))⟩
theorem Only.grown {w w' : World} {row : Option Nat} (h : w.grownBy w' row) : Only w w' (fun k => row = some k) :=
  ⟨h.os, h.tape, h.output, h.size, fun k hk hn => h.block k hk (fun e => hn e.symm)⟩
theorem Only.set (w : World) (k o : Nat) (u : Value) : Only w (w.setCell ⟨k, o, none⟩ u) (fun j => j = k) :=
  ⟨rfl, rfl, rfl, by simp, fun j _ hn => Below.heap_setCell _ _ _ _ hn⟩
theorem Only.cell {w w' : World} {A : Nat → Prop} (h : Only w w' A) {a : Addr} {v : Value} (hc : w.cell? a = some v) (hn : ¬ A a.block) : w'.cell? a = some v :=
  (World.cell?_of_block (h.block a.block (World.block_lt_of_cell? w a hc) hn)).trans hc
theorem Only.frozen {w w' : World} {A : Nat → Prop} (h : Only w w' A) {a : Addr} (hk : a.block < w.heap.size) (hn : ¬ A a.block) : w'.frozen? a = w.frozen? a :=
  World.frozen?_of_block (h.block a.block hk hn)
theorem Only.own {w w' : World} {A : Nat → Prop} (h : Only w w' A) {B : Nat} {e : TypeId} {size : Nat} {v : Value} {n : Nat} {xs : List Value} (ho : w.ownsRow B e size v n xs) (hn : ∀ j, v.ownBlock = some j → ¬ A j) : w'.ownsRow B e size v n xs := by
  refine ⟨ho.1, ?_⟩
  rcases ho.2 with hx | ⟨g, cap, cur, rfl, hb, hg, r⟩
  · exact .inl hx
  · have hlt : g < w.heap.size := (ho.lt g rfl).2
    exact .inr ⟨g, cap, cur, rfl, hb, (h.block g hlt (hn g rfl)).trans hg, r⟩

/-- What an append to a row of the call's own leaves: all cells but those behind its length. -/
def Keeps (w w' : World) (v : Value) (m : Nat) : Prop := ∀ (b j : Nat) (u : Value), (v.ownBlock = some b → j < m) → w.cell? ⟨b, j, none⟩ = some u → w'.cell? ⟨b, j, none⟩ = some u

theorem wp_appK {P : Program} {w : World} {ops : Array Oper} {rest : List Oper} {o : Oper} {a : Act} {Q : Exit → Act → World → Prop} (hgd : o.guard = none) (s x : Operand) (t : TypeId)
    (ho : o.op = .call { callee := .builtin .append, args := #[s, x], argTypes := #[t, t] })
    (e : TypeId) (i : TypeInfo) (z : Value) (size bytes : Nat) (ht : P.underlying t = some (.slice e)) (hi : P.info? e = some i) (hz : i.zero = some z) (hsize : i.size = size) (hby : i.bytes = bytes) (hzs : z.cells.size = size) (hsz : 0 < size)
    (B : Nat) (v : Value) (n : Nat) (xs : List Value) (hs : a.eval s = v) (hown : w.ownsRow B e size v n xs) (ad : Addr) (news : List Value) (hx : a.eval x = .slice (some ad) 1 1) (hln : news.length = size)
    (hnews : ∀ j u, news[j]? = some u → w.cell? (ad.add j) = some u) (h1 : ∀ u ∈ news, u.oneCell' = true) (hl : n + 1 ≤ maxLen) (hbytes : (n + 1) * bytes ≤ 140737488355328) (hB : B ≤ w.heap.size)
    (h : ∀ v' w', w'.ownsRow B e size v' (n + 1) (xs ++ news) → w.grownBy w' v.ownBlock → (∀ j, v'.ownBlock = some j → v.ownBlock = some j ∨ w.heap.size ≤ j) → Keeps w w' v (n * size) → wpList P ops Q rest (a.put o.dst v') w') : wpList P ops Q (o :: rest) a w := by
  rcases hown.2 with ⟨rfl, hn0⟩ | ⟨g, cap, cur, rfl, hb, hg, hnc, hcm, hcs, htake⟩
  · subst hn0
    refine wpList_append_own_at w hgd s x t ho B e i z size bytes ht hi hz hsize hby hzs hsz (.slice none 0 0) 0 xs hs hown ad 1 1 news hx (by omega) hnews h1 hl hbytes hB ?_
    intro v' w' r1 r2 _ r4
    refine h v' w' r1 r2 (fun j hj => by rcases r4 with r4 | r4 <;> rw [r4] at hj; exact .inl hj; injection hj with hj; exact .inr (by omega)) (fun b j u hj hc => r2.cell hc (by simp [Value.ownBlock]))
  · by_cases hr : n + 1 ≤ cap
    · refine wpList_append_fits w hgd s x t ho B e i size ht hi hsize g n cap xs hs hown ad 1 1 news hx (by omega) hnews h1 hr ?_
      intro w' r1 r2
      refine h _ w' r1 r2 (fun j hj => .inl hj) (fun b j u hj hc => ?_)
      by_cases hbg : b = g
      · subst hbg
        have hjn : j < n * size := hj rfl
        have e1 := hown.cellAt j hjn
        have e2 := r1.cellAt j (Nat.lt_of_lt_of_le hjn (Nat.mul_le_mul_right _ (Nat.le_succ n)))
        rw [e2, List.getElem?_append_left (by rw [hown.1]; exact hjn), ← e1]
        exact hc
      · exact r2.cell hc (by simp; exact fun e => hbg e)
    · refine wpList_append_grows w hgd s x t ho e i z size bytes ht hi hz hsize hby hzs hsz (some ⟨g, 0, none⟩) n cap xs hs (by simp) hown.1 (fun b hb' j u hj => by
        injection hb' with hb'
        subst hb'
        exact hown.cells (g := g) rfl j u hj) ad 1 1 news hx (by omega) hnews h1 (by omega) hl hbytes ?_
      intro v' w' r1 r2
      refine h v' w' (own_base r1 hB) ⟨r2.os, r2.tape, r2.output, r2.size, fun k hk _ => r2.block k hk (by simp)⟩ (fun j hj => .inr (r1.lt j hj).1) (fun b j u _ hc => r2.cell hc (by simp))
end Go.Proofs.Ytammnaafdhhjaaa
