import Derived.Ground.NamesProg
import Derived.Ground.SlgnProg
import Derived.Shelf.Lay
import Derived.Shelf.SlGeneric
import Derived.Shelf.SlicesE.Delete
import Derived.Shelf.Strconv.Clone
import Derived.Test.YtammnaafdhhjaaaGreatRows
import Derived.Test.YtammnaafdhhjaaaGreatJG1
import Derived.Test.YtammnaafdhhjaaaGreatJX1
set_option maxHeartbeats 16000000
set_option maxRecDepth 100000
namespace Go.Proofs.YtammnaafdhhjaaaGreat
open Go.RowKit Go.Shelf Go.Lib Go.Sort
shelf_lay_g SlLaysE.n45 Slgn 45 at Tryz 128 as Tryz.delT
shelf_lay LaysM.n316 Nm 316 at Tryz as Tryz.cloneS
def tx (l : List UInt8) : Tx := ⟨S l⟩
def OwnF (B : Nat) (w : World) (v : Value) (fs : List (List UInt8)) : Prop := OwnT B w v (fs.map tx)
theorem OwnF.cell {B : Nat} {w : World} {v : Value} {fs : List (List UInt8)} (h : OwnF B w v fs) {k : Nat} (hk : k < fs.length) : ∃ g c, v = .slice (some ⟨g, 0, none⟩) fs.length c /\ w.cell? ⟨g, k, none⟩ = some (.string (S (fs.getD k []))) /\ ∀ j, j < fs.length -> w.frozen? ⟨g, j, none⟩ = false := by
 have h0 := h
 have hl : (fs.map tx).length = fs.length := by simp
 rcases h.2 with ⟨h', h1⟩ | ⟨g, cap, cur, h', h1, h2, h3, h4, h5, h6⟩
 ·omega
 ·refine ⟨g, cap, by rw [h', hl], ?_, ?_⟩
  ·subst h'
   have := h0.cellAt k (by rw [hl]; omega)
   rw [this]
   have e : ∀ (l : List (List UInt8)) (k : Nat), k < l.length -> ((l.map tx).flatMap Tx.cells)[k]? = some (.string (S (l.getD k []))) := by
    intro l
    induction l with
    | nil => intro k hk; simp at hk
    | cons x l ih =>
     intro k hk
     cases k with
     | zero => rfl
     | succ k => simpa [Tx.cells] using ih k (by simpa using hk)
   exact e fs k hk
  ·intro j hj
   subst h'
   exact h0.frozenAt j
theorem own_cut {w : World} {B : Nat} {e : TypeId} {size g n m cap : Nat} {xs : List Value} (h : w.ownsRow B e size (.slice (some ⟨g, 0, none⟩) n cap) n xs) (hm : m <= n) : w.ownsRow B e size (.slice (some ⟨g, 0, none⟩) m cap) m (xs.take (m * size)) := by
 have hml : m * size <= n * size := Nat.mul_le_mul_right _ hm
 rcases h.2 with ⟨h', _⟩ | ⟨g', cap', cur, h', hb, hg, hnc, hcm, hcs, ht⟩
 ·simp at h'
 ·simp only [Value.slice.injEq, Option.some.injEq, Addr.mk.injEq, and_true, true_and] at h'
  obtain ⟨rfl, rfl⟩ := h'
  refine ⟨by rw [List.length_take, h.1]; omega, .inr ⟨g, cap, cur, rfl, hb, hg, by omega, hcm, hcs, ?_⟩⟩
  rw [<- ht, List.take_take, Nat.min_eq_left hml]
end Go.Proofs.YtammnaafdhhjaaaGreat
