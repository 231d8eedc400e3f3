import Derived.Test.YtammnaafdhhjaaaGreatRows
set_option maxHeartbeats 16000000
set_option maxRecDepth 100000
namespace Go.Proofs.YtammnaafdhhjaaaGreat.bulks
theorem pos {H:Type}(d:DataW H):0<Rows.uptoBulk d:=by
 cases d
 case lit l=>cases l<;>simp[Rows.uptoBulk]
 all_goals simp[Rows.uptoBulk]
theorem aJS {H:Type}:∀l:List (DataW H),l.length<=Rows.uptoBulkAll l
 | []=>by simp
 | x::r=>by
  have:=pos x
  have:=aJS r
  simp only[Rows.uptoBulkAll,List.length_cons]
  omega
theorem places {H:Type}(l r:List (DataW H)):l.length<Rows.uptoBulk (.slice l r):=by
 have:=aJS l
 simp only[Rows.uptoBulk]
 omega
end Go.Proofs.YtammnaafdhhjaaaGreat.bulks
