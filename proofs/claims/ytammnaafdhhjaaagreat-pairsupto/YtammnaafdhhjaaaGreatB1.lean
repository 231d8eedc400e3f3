import Derived.Test.YtammnaafdhhjaaaGreatJS2
set_option maxHeartbeats 16000000
set_option maxRecDepth 100000
namespace Go.Proofs.YtammnaafdhhjaaaGreat
open Go.RowKit
theorem rF (w:World):bH w (.slice none 0 0) []:=⟨none,0,rfl,by simp⟩
theorem pF (w:World):bL w (.slice none 0 0) []:=⟨none,0,rfl,by simp⟩
theorem uW (W:World)(l:List UInt8)(vs:Array Value)(h:vs=(l.map qI).toArray)(hl:l.length<=1000):Own W.heap.size (W.alloc (.cells vs 5)) (.slice (some ⟨W.heap.size,0,none⟩) l.length l.length) l:=by
 subst h
 exact ⟨by simp,.inr ⟨W.heap.size,l.length,_,rfl,Nat.le_refl _,heap_alloc_new W _,Nat.le_refl _,by unfold maxLen;omega,by simp,by simp[List.take_of_length_le]⟩⟩
end Go.Proofs.YtammnaafdhhjaaaGreat
