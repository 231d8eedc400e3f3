import Derived.Test.YtammnaafdhhjaaaGreatL1
import Derived.Test.YtammnaafdhhjaaaGreatBK
set_option maxHeartbeats 16000000
set_option maxRecDepth 100000
namespace Go.Proofs.YtammnaafdhhjaaaGreat
open Go.ChangeShapes Go.WideShapes Go.ChangeAt Go.RowKit Go.Proofs.Tryz
section
variable {H : Type} {enc : TypeId × Value -> H} {W : World} {sp : Nat -> Bool}
theorem aBq {fuel:Nat}{t e:TypeId}{a:Option Addr}{n c:Nat}{x:DataW H×List MemPlace}(ht:prog.underlying t=some (.slice e))(h:DataW.trod enc prog W 0 sp true fuel t [.slice a n c]=some x):n<=Rows.uptoBulk x.1:=by
 rcases Deep.open_slice ht h with ⟨h0,_⟩ | ⟨a',len,cap,m,n',D,Pl,h1,_,_,_,_,hx,_⟩
 ·simp only[List.cons.injEq,Value.slice.injEq,and_true] at h0
  omega
 ·simp only[List.cons.injEq,Value.slice.injEq,and_true] at h1
  obtain ⟨_,rfl,_⟩:=h1
  rw[hx]
  have:=bulks.places ((List.range n).map D) ((List.range (m -n)).map fun j=>D (n+j))
  simp only[List.length_map,List.length_range] at this
  exact Nat.le_of_lt this
end
end Go.Proofs.YtammnaafdhhjaaaGreat
