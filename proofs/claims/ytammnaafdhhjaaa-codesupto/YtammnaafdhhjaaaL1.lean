/- Ytammnaafdhhjaaa: a record among the arguments, opened. -/
import Derived.Test.YtammnaafdhhjaaaE1
import Derived.ProofKit
import Derived.Deep.Slices
import Derived.Deep.Strs
import Derived.Lib.SmallJoins
namespace Go.Proofs.Ytammnaafdhhjaaa
open Go.ChangeShapes Go.WideShapes Go.ChangeAt Go.RowKit

section
variable {H : Type} {enc : TypeId × Value → H} {W : World} {sp : Nat → Bool}

theorem cellsID : Try.prog.cellsOf 23 = 2 := by kernel_rfl
theorem cellsF32 : Try.prog.cellsOf 24 = 1 := by kernel_rfl
theorem cellsInt : Try.prog.cellsOf 3 = 1 := by kernel_rfl
theorem cellsItem : Try.prog.cellsOf 26 = 4 := by kernel_rfl
theorem cellsEntry : Try.prog.cellsOf 62 = 5 := by kernel_rfl
theorem cellsMarks : Try.prog.cellsOf 28 = 5 := by kernel_rfl
theorem cellsItems : Try.prog.cellsOf 29 = 1 := by kernel_rfl
theorem cellsEntries : Try.prog.cellsOf 30 = 1 := by kernel_rfl
theorem cellsRecord : Try.prog.cellsOf 32 = 13 := by kernel_rfl

theorem trod_flt {P : Program} {k : FloatKind} {t : TypeId} {fuel : Nat} {cs : List Value} {x : DataW H × List MemPlace} (ht : P.underlying t = some (.float k)) (h : DataW.trod enc P W 0 sp true fuel t cs = some x) : ∃ b, cs = [.float k b] ∧ (Lit.float k b).wf = true := by
  cases fuel with
  | zero => simp [DataW.trod] at h
  | succ n =>
    unfold DataW.trod at h
    rw [ht] at h
    split at h <;> simp_all
theorem trod_f32 {fuel : Nat} {cs : List Value} {x : DataW H × List MemPlace} (h : DataW.trod enc Try.prog W 0 sp true fuel 24 cs = some x) : ∃ b, cs = [.float .f32 b] ∧ b < 4294967296 := by
  obtain ⟨b, hb, hw⟩ := trod_flt Try.underlying24 h
  exact ⟨b, hb, of_decide_eq_true hw⟩

/-- The i-th field of a struct, read. -/
theorem field_at {fuel : Nat} {t : TypeId} {fs : Array Field} {cs : List Value} {x : DataW H × List MemPlace} (ht : Try.prog.underlying t = some (.struct fs)) (h : DataW.trod enc Try.prog W 0 sp true fuel t cs = some x) :
    cs.length = Try.prog.cellsOf t ∧ ∃ n, ∀ (i : Nat) (f : Field), fs[i]? = some f → ∃ y, DataW.trod enc Try.prog W 0 sp true n f.type ((cs.drop f.offset).take (Try.prog.cellsOf f.type)) = some y := by
  obtain ⟨xs, n, _, _, hl, hx, hf⟩ := DataW.trod_struct ht h
  refine ⟨hl, n, fun i f hi => ?_⟩
  have hlt : i < xs.length := by rw [hx]; exact (Array.getElem?_eq_some_iff.1 hi).1
  exact ⟨xs[i], by rw [hf i f hi, List.getElem?_eq_getElem hlt]⟩

set_option maxRecDepth 100000 in
theorem open_id {fuel : Nat} {cs : List Value} {x : DataW H × List MemPlace} (h : DataW.trod enc Try.prog W 0 sp true fuel 23 cs = some x) : ∃ a b : Int, cs = [.int .i64 a, .int .i64 b] := by
  obtain ⟨hl, n, hf⟩ := field_at Try.underlying23 h
  rw [cellsID] at hl
  match cs, hl with
  | [a, b], _ =>
    obtain ⟨y0, h0⟩ : ∃ y, DataW.trod enc Try.prog W 0 sp true n 3 (([a, b].drop 0).take (Try.prog.cellsOf 3)) = some y := hf 0 _ rfl
    rw [cellsInt] at h0
    obtain ⟨y1, h1⟩ : ∃ y, DataW.trod enc Try.prog W 0 sp true n 3 (([a, b].drop 1).take (Try.prog.cellsOf 3)) = some y := hf 1 _ rfl
    rw [cellsInt] at h1
    obtain ⟨p, hp, _⟩ := DataW.trod_int Try.underlying3 h0
    obtain ⟨q, hq, _⟩ := DataW.trod_int Try.underlying3 h1
    simp at hp hq
    exact ⟨p, q, by rw [hp, hq]⟩

set_option maxRecDepth 100000 in
theorem open_item {fuel : Nat} {cs : List Value} {x : DataW H × List MemPlace} (h : DataW.trod enc Try.prog W 0 sp true fuel 26 cs = some x) : ∃ i : It, cs = i.cells ∧ WfIt i := by
  obtain ⟨hl, n, hf⟩ := field_at Try.underlying26 h
  rw [cellsItem] at hl
  match cs, hl with
  | [a, b, c, d], _ =>
    obtain ⟨y0, h0⟩ : ∃ y, DataW.trod enc Try.prog W 0 sp true n 23 (([a, b, c, d].drop 0).take (Try.prog.cellsOf 23)) = some y := hf 0 _ rfl
    rw [cellsID] at h0
    obtain ⟨y1, h1⟩ : ∃ y, DataW.trod enc Try.prog W 0 sp true n 24 (([a, b, c, d].drop 2).take (Try.prog.cellsOf 24)) = some y := hf 1 _ rfl
    rw [cellsF32] at h1
    obtain ⟨y2, h2⟩ : ∃ y, DataW.trod enc Try.prog W 0 sp true n 24 (([a, b, c, d].drop 3).take (Try.prog.cellsOf 24)) = some y := hf 2 _ rfl
    rw [cellsF32] at h2
    obtain ⟨p, q, hp⟩ := open_id h0
    obtain ⟨u, hu, wu⟩ := trod_f32 h1
    obtain ⟨v, hv, wv⟩ := trod_f32 h2
    simp at hp hu hv
    exact ⟨⟨p, q, u, v⟩, by rw [hp.1, hp.2, hu, hv]; rfl, wu, wv⟩

set_option maxRecDepth 100000 in
theorem open_entry {fuel : Nat} {cs : List Value} {x : DataW H × List MemPlace} (h : DataW.trod enc Try.prog W 0 sp true fuel 62 cs = some x) : ∃ e : En, cs = e.cells ∧ WfIt e.it := by
  obtain ⟨hl, n, hf⟩ := field_at Try.underlying62 h
  rw [cellsEntry] at hl
  match cs, hl with
  | [a, b, c, d, e], _ =>
    obtain ⟨y0, h0⟩ : ∃ y, DataW.trod enc Try.prog W 0 sp true n 3 (([a, b, c, d, e].drop 0).take (Try.prog.cellsOf 3)) = some y := hf 0 _ rfl
    rw [cellsInt] at h0
    obtain ⟨y1, h1⟩ : ∃ y, DataW.trod enc Try.prog W 0 sp true n 26 (([a, b, c, d, e].drop 1).take (Try.prog.cellsOf 26)) = some y := hf 1 _ rfl
    rw [cellsItem] at h1
    obtain ⟨p, hp, _⟩ := DataW.trod_int Try.underlying3 h0
    obtain ⟨i, hi, wi⟩ := open_item h1
    simp [It.cells] at hp hi
    exact ⟨⟨p, i⟩, by rw [hp, hi.1, hi.2.1, hi.2.2.1, hi.2.2.2]; rfl, wi⟩

set_option maxRecDepth 100000 in
theorem open_marks {fuel : Nat} {cs : List Value} {x : DataW H × List MemPlace} (h : DataW.trod enc Try.prog W 0 sp true fuel 28 cs = some x) : ∃ m : Mk, cs = [.int .i64 m.g, .int .i64 m.m, .int .i64 m.s, .int .i64 m.a, .int .i64 m.n] := by
  obtain ⟨hl, n, hf⟩ := field_at Try.underlying28 h
  rw [cellsMarks] at hl
  match cs, hl with
  | [a, b, c, d, e], _ =>
    obtain ⟨y0, h0⟩ : ∃ y, DataW.trod enc Try.prog W 0 sp true n 3 (([a, b, c, d, e].drop 0).take (Try.prog.cellsOf 3)) = some y := hf 0 _ rfl
    rw [cellsInt] at h0
    obtain ⟨y1, h1⟩ : ∃ y, DataW.trod enc Try.prog W 0 sp true n 3 (([a, b, c, d, e].drop 1).take (Try.prog.cellsOf 3)) = some y := hf 1 _ rfl
    rw [cellsInt] at h1
    obtain ⟨y2, h2⟩ : ∃ y, DataW.trod enc Try.prog W 0 sp true n 3 (([a, b, c, d, e].drop 2).take (Try.prog.cellsOf 3)) = some y := hf 2 _ rfl
    rw [cellsInt] at h2
    obtain ⟨y3, h3⟩ : ∃ y, DataW.trod enc Try.prog W 0 sp true n 3 (([a, b, c, d, e].drop 3).take (Try.prog.cellsOf 3)) = some y := hf 3 _ rfl
    rw [cellsInt] at h3
    obtain ⟨y4, h4⟩ : ∃ y, DataW.trod enc Try.prog W 0 sp true n 3 (([a, b, c, d, e].drop 4).take (Try.prog.cellsOf 3)) = some y := hf 4 _ rfl
    rw [cellsInt] at h4
    obtain ⟨p0, e0, _⟩ := DataW.trod_int Try.underlying3 h0
    obtain ⟨p1, e1, _⟩ := DataW.trod_int Try.underlying3 h1
    obtain ⟨p2, e2, _⟩ := DataW.trod_int Try.underlying3 h2
    obtain ⟨p3, e3, _⟩ := DataW.trod_int Try.underlying3 h3
    obtain ⟨p4, e4, _⟩ := DataW.trod_int Try.underlying3 h4
    simp at e0 e1 e2 e3 e4
    exact ⟨⟨p0, p1, p2, p3, p4⟩, by rw [e0, e1, e2, e3, e4]⟩

/-- Elements that lie one behind another. -/
theorem lies_of {α : Type} (cells : α → List Value) (size : Nat) (hs : 0 < size) (hsz : ∀ x, (cells x).length = size) (xs : List α) (a : Addr) (c : Nat)
    (flat : ∀ k j (hk : k < xs.length), j < size → (xs.flatMap cells)[size * k + j]? = (cells xs[k])[j]?)
    (h : ∀ k (hk : k < xs.length) j u, (cells xs[k])[j]? = some u → W.cell? ((a.add (k * size)).add j) = some u) : Lies W (.slice (some a) xs.length c) xs.length (xs.flatMap cells) := by
  refine ⟨some a, c, rfl, fun hp => ?_⟩
  obtain ⟨b, off, spot⟩ := a
  have hspot : spot = none := by
    have h0 := h 0 hp 0 _ (List.getElem?_eq_getElem (by rw [hsz]; exact hs))
    rw [Deep.add_add, Nat.zero_mul, Nat.add_zero] at h0
    have h1 : ((⟨b, off, spot⟩ : Addr).add 0).spot = none := World.cell?_spot h0
    unfold Addr.add at h1
    simpa using h1
  subst hspot
  refine ⟨b, off, rfl, fun j u hu => ?_⟩
  have hjl : j < xs.length * size := by
    have hl : (xs.flatMap cells).length = xs.length * size := by
      rw [List.length_flatMap]
      have : (xs.map fun x => (cells x).length) = xs.map fun _ => size := List.map_congr_left fun x _ => hsz x
      rw [this, List.map_const', List.sum_replicate_nat]
    have := (List.getElem?_eq_some_iff.1 hu).1
    omega
  have hq : j / size < xs.length := Nat.div_lt_of_lt_mul (by rw [Nat.mul_comm]; exact hjl)
  have hr : j % size < size := Nat.mod_lt _ hs
  have e : size * (j / size) + j % size = j := Nat.div_add_mod j size
  have hh := h (j / size) hq (j % size) u (by rw [← flat _ _ hq hr, e]; exact hu)
  rw [Deep.add_add] at hh
  have e2 : j / size * size + j % size = j := by rw [Nat.mul_comm]; exact e
  rw [e2] at hh
  rw [show (⟨b, off + j, none⟩ : Addr) = (⟨b, off, none⟩ : Addr).add j by unfold Addr.add; split <;> simp_all]
  exact hh

theorem open_items {fuel : Nat} {cs : List Value} {x : DataW H × List MemPlace} (h : DataW.trod enc Try.prog W 0 sp true fuel 29 cs = some x) : ∃ v is, cs = [v] ∧ LiesI W v is ∧ ∀ i ∈ is, WfIt i := by
  rcases Deep.open_slice Try.underlying29 h with ⟨rfl, _⟩ | ⟨a, len, cap, m, n, D, Pl, rfl, _, _, _, hm, _, hx⟩
  · exact ⟨_, [], rfl, ⟨none, 0, rfl, by simp⟩, by simp⟩
  · have hlm : len ≤ m := by rw [hm]; split <;> omega
    have hx' : ∀ i, i < len → ∃ it : It, WfIt it ∧ ∀ j u, it.cells[j]? = some u → W.cell? ((a.add (i * 4)).add j) = some u := fun i hi => by
      obtain ⟨cs', h1, h2⟩ := hx i (by omega)
      rw [cellsItem] at h1
      obtain ⟨it, rfl, wi⟩ := open_item h2
      obtain ⟨_, hl, hc⟩ := World.cells?_some h1
      refine ⟨it, wi, fun j u hu => ?_⟩
      rw [hc j (by rw [← hl]; exact (List.getElem?_eq_some_iff.1 hu).1)]; exact hu
    have : Inhabited It := ⟨it0⟩
    obtain ⟨f, hf⟩ := Deep.choose_lt hx'
    have hlen : ((List.range len).map f).length = len := by simp
    refine ⟨_, (List.range len).map f, rfl, ?_, ?_⟩
    · have := lies_of (W := W) It.cells 4 (by decide) (fun _ => rfl) ((List.range len).map f) a cap (fun k j hk hj => flat_at4 _ k j hk hj) (fun k hk j u hu => by
        have hk' : k < len := by rw [hlen] at hk; exact hk
        refine (hf k hk').2 j u ?_
        simpa using hu)
      unfold LiesI
      rw [hlen] at this ⊢
      exact this
    · intro i hi
      obtain ⟨k, hk, rfl⟩ := List.mem_map.1 hi
      exact (hf k (List.mem_range.1 hk)).1

theorem open_entries {fuel : Nat} {cs : List Value} {x : DataW H × List MemPlace} (h : DataW.trod enc Try.prog W 0 sp true fuel 30 cs = some x) : ∃ v es, cs = [v] ∧ LiesE W v es ∧ ∀ e ∈ es, WfIt e.it := by
  rcases Deep.open_slice Try.underlying30 h with ⟨rfl, _⟩ | ⟨a, len, cap, m, n, D, Pl, rfl, _, _, _, hm, _, hx⟩
  · exact ⟨_, [], rfl, ⟨none, 0, rfl, by simp⟩, by simp⟩
  · have hlm : len ≤ m := by rw [hm]; split <;> omega
    have hx' : ∀ i, i < len → ∃ it : En, WfIt it.it ∧ ∀ j u, it.cells[j]? = some u → W.cell? ((a.add (i * 5)).add j) = some u := fun i hi => by
      obtain ⟨cs', h1, h2⟩ := hx i (by omega)
      rw [cellsEntry] at h1
      obtain ⟨it, rfl, wi⟩ := open_entry h2
      obtain ⟨_, hl, hc⟩ := World.cells?_some h1
      refine ⟨it, wi, fun j u hu => ?_⟩
      rw [hc j (by rw [← hl]; exact (List.getElem?_eq_some_iff.1 hu).1)]; exact hu
    have : Inhabited En := ⟨⟨0, it0⟩⟩
    obtain ⟨f, hf⟩ := Deep.choose_lt hx'
    have hlen : ((List.range len).map f).length = len := by simp
    refine ⟨_, (List.range len).map f, rfl, ?_, ?_⟩
    · have := lies_of (W := W) En.cells 5 (by decide) (fun _ => rfl) ((List.range len).map f) a cap (fun k j hk hj => flat_at5 _ k j hk hj) (fun k hk j u hu => by
        have hk' : k < len := by rw [hlen] at hk; exact hk
        refine (hf k hk').2 j u ?_
        simpa using hu)
      unfold LiesE
      rw [hlen] at this ⊢
      exact this
    · intro i hi
      obtain ⟨k, hk, rfl⟩ := List.mem_map.1 hi
      exact (hf k (List.mem_range.1 hk)).1

set_option maxRecDepth 100000 in
/-- A RECORD AMONG THE ARGUMENTS. -/
theorem open_record {r : Reach} {b0 : Nat} {v : Value} {d : DataW H} {p : List MemPlace} (hv : Value.okWide Try.prog W r b0 32 v) (h : DataW.Trod enc Try.prog W 0 sp true 32 v d p) :
    ∃ (rc : Rc) (vi vo : Value), v = rv rc.kind rc.seq rc.it rc.mks vi vo ∧ LiesI W vi rc.items ∧ LiesE W vo rc.outs ∧ WfR rc := by
  obtain ⟨cs, rfl, hsz⟩ := okWide_struct Try.underlying32 hv
  obtain ⟨fuel, hf⟩ := h
  obtain ⟨hl, n, hx⟩ := field_at Try.underlying32 hf
  rw [cellsRecord] at hl
  obtain ⟨l⟩ := cs
  simp only [Value.cells] at hl hx
  match l, hl with
  | [c0, c1, c2, c3, c4, c5, c6, c7, c8, c9, c10, c11, c12], _ =>
    obtain ⟨y0, h0⟩ : ∃ y, DataW.trod enc Try.prog W 0 sp true n 3 (([c0, c1, c2, c3, c4, c5, c6, c7, c8, c9, c10, c11, c12].drop 0).take (Try.prog.cellsOf 3)) = some y := hx 0 _ rfl
    rw [cellsInt] at h0
    obtain ⟨y1, h1⟩ : ∃ y, DataW.trod enc Try.prog W 0 sp true n 3 (([c0, c1, c2, c3, c4, c5, c6, c7, c8, c9, c10, c11, c12].drop 1).take (Try.prog.cellsOf 3)) = some y := hx 1 _ rfl
    rw [cellsInt] at h1
    obtain ⟨y2, h2⟩ : ∃ y, DataW.trod enc Try.prog W 0 sp true n 26 (([c0, c1, c2, c3, c4, c5, c6, c7, c8, c9, c10, c11, c12].drop 2).take (Try.prog.cellsOf 26)) = some y := hx 2 _ rfl
    rw [cellsItem] at h2
    obtain ⟨y3, h3⟩ : ∃ y, DataW.trod enc Try.prog W 0 sp true n 28 (([c0, c1, c2, c3, c4, c5, c6, c7, c8, c9, c10, c11, c12].drop 6).take (Try.prog.cellsOf 28)) = some y := hx 3 _ rfl
    rw [cellsMarks] at h3
    obtain ⟨y4, h4⟩ : ∃ y, DataW.trod enc Try.prog W 0 sp true n 29 (([c0, c1, c2, c3, c4, c5, c6, c7, c8, c9, c10, c11, c12].drop 11).take (Try.prog.cellsOf 29)) = some y := hx 4 _ rfl
    rw [cellsItems] at h4
    obtain ⟨y5, h5⟩ : ∃ y, DataW.trod enc Try.prog W 0 sp true n 30 (([c0, c1, c2, c3, c4, c5, c6, c7, c8, c9, c10, c11, c12].drop 12).take (Try.prog.cellsOf 30)) = some y := hx 5 _ rfl
    rw [cellsEntries] at h5
    obtain ⟨K, e0, _⟩ := DataW.trod_int Try.underlying3 h0
    obtain ⟨s, e1, _⟩ := DataW.trod_int Try.underlying3 h1
    obtain ⟨i, e2, wi⟩ := open_item h2
    obtain ⟨m, e3⟩ := open_marks h3
    obtain ⟨vi, is, e4, li, wis⟩ := open_items h4
    obtain ⟨vo, es, e5, lo, wes⟩ := open_entries h5
    simp [It.cells] at e0 e1 e2 e3 e4 e5
    refine ⟨⟨K, s, i, m, is, es⟩, vi, vo, ?_, li, lo, ⟨wi, wis, wes⟩⟩
    rw [e0, e1, e2.1, e2.2.1, e2.2.2.1, e2.2.2.2, e3.1, e3.2.1, e3.2.2.1, e3.2.2.2.1, e3.2.2.2.2, e4, e5]
    rfl
end
end Go.Proofs.Ytammnaafdhhjaaa
