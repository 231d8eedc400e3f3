import Derived.Test.YtammnaafdhhjaaaGreatJC4
import Derived.Test.YtammnaafdhhjaaaGreatJR96
set_option maxHeartbeats 16000000
set_option maxRecDepth 100000
namespace Go.Proofs.YtammnaafdhhjaaaGreat
open Go.RowKit
theorem fJ {w W W':World}{A:Nat->Prop}(g:w.grownBy W none)(o:Only W W' A)(hA:∀k,A k->w.heap.size<=k):w.grownBy W' none:=
 ⟨o.os.trans g.os,o.tape.trans g.tape,o.output.trans g.output,Nat.le_trans g.size o.size,fun k hk _=>by
  have hz:=g.size
  rw[o.block k (by omega) (fun e=>by have:=hA k e;omega),g.block k hk (by simp)]⟩
end Go.Proofs.YtammnaafdhhjaaaGreat
