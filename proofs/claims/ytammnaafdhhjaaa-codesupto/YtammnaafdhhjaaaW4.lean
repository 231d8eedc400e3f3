/- Ytammnaafdhhjaaa: a record is read. -/
import Derived.Test.YtammnaafdhhjaaaW3
namespace Go.Proofs.Ytammnaafdhhjaaa
open Go.RowKit

/-- A record as a value. -/
def rv (k s : Int) (i : It) (m : Mk) (vi vo : Value) : Value :=
  .agg #[.int .i64 k, .int .i64 s, .int .i64 i.sh, .int .i64 i.nu, .float .f32 i.pl, .float .f32 i.sp, .int .i64 m.g, .int .i64 m.m, .int .i64 m.s, .int .i64 m.a, .int .i64 m.n, vi, vo]
def it0 : It := ⟨0, 0, 0, 0⟩
def mk0 : Mk := ⟨0, 0, 0, 0, 0⟩
/-- What is read behind the kind. -/
def pRc (K : Int) (l : List UInt8) : Rc :=
  if K = 1 then ⟨1, 0, pIt l, mk0, [], []⟩
  else if K = 2 then ⟨2, 0, ⟨b1 l, b2 (t1 l), 0, 0⟩, mk0, [], []⟩
  else if K = 4 ∨ K = 7 then ⟨K, b2 l, pIt (t2 l), mk0, [], []⟩
  else if K = 5 ∨ K = 8 then ⟨K, b2 l, it0, mk0, [], []⟩
  else if K = 6 then
    let l2 := tMk l
    let n := (b1 l2).toNat
    let l3 := tItN n (t1 l2)
    ⟨6, 0, it0, pMk l, pItN n (t1 l2), pEnN (b1 l3).toNat (t1 l3)⟩
  else ⟨K, 0, it0, mk0, [], []⟩

theorem slice_of {B : Nat} {e : TypeId} {size : Nat} {v : Value} {n : Nat} {xs : List Value} {w : World} (h : w.ownsRow B e size v n xs) : ∃ a n' c, v = .slice a n' c := by
  rcases h.2 with ⟨rfl, _⟩ | ⟨g, cap, cur, rfl, _⟩
  · exact ⟨_, _, _, rfl⟩
  · exact ⟨_, _, _, rfl⟩

theorem Hid.mk' {p : Prop} (h : p) : Hid p := h
/-- What record() leaves. -/
def RecPost (b : Nat) (w : World) (p : Rc) (e : Ending) (w' : World) : Prop :=
  ∃ vi vo, e = .returned (rv p.kind p.seq p.it p.mks vi vo) ∧ w.grownBy w' (some b) ∧ OwnI w.heap.size w' vi p.items ∧ OwnE w.heap.size w' vo p.outs ∧ (∀ j, vi.ownBlock = some j → vo.ownBlock ≠ some j)

end Go.Proofs.Ytammnaafdhhjaaa
