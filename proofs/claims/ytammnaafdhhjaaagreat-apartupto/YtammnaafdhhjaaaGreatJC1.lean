import Derived.Test.YtammnaafdhhjaaaGreatJP1
set_option maxHeartbeats 16000000
set_option maxRecDepth 100000
namespace Go.Proofs.YtammnaafdhhjaaaGreat
open Go.RowKit
theorem mH (is:List It):(is.flatMap It.cells).length=is.length * 4:=by
 induction is with
 | nil=>rfl
 | cons a t ih=>rw[List.flatMap_cons,List.length_append,ih,List.length_cons];simp[It.cells];omega
theorem aJW (A ys:List Value)(a b c d y0 y1 y2 y3:Value)(p:Nat)(hp:A.length=p):((((A++y0::y1::y2::y3::ys).set p a).set (p+1) b).set (p+2) c).set (p+3) d=A++a::b::c::d::ys:=by
 subst hp
 simp
theorem aEG {B:Nat}{e:TypeId}{g N cap p:Nat}{A ys:List Value}{y0 y1 y2 y3:Value}{w:World}(h:w.ownsRow B e 4 (.slice (some ⟨g,0,none⟩) N cap) N (A++y0::y1::y2::y3::ys))(hp:A.length=p)(a b c d:Value):
  ((((w.setCell ⟨g,p,none⟩ a).setCell ⟨g,p+1,none⟩ b).setCell ⟨g,p+2,none⟩ c).setCell ⟨g,p+3,none⟩ d).ownsRow B e 4 (.slice (some ⟨g,0,none⟩) N cap) N (A++a::b::c::d::ys):=by
 have:=((((h.stored p a).1.stored (p+1) b).1.stored (p+2) c).1.stored (p+3) d).1
 rwa [aJW A ys a b c d y0 y1 y2 y3 p hp] at this
theorem aAe (is:List En):∀u∈is.flatMap En.cells,u.oneCell'=true:=by
 intro u hu
 obtain ⟨i,_,hi⟩:=List.mem_flatMap.1 hu
 simp[En.cells] at hi;rcases hi with rfl | rfl | rfl | rfl | rfl<;>rfl
theorem fM (is:List En):(is.flatMap En.cells).length=is.length * 5:=by
 induction is with
 | nil=>rfl
 | cons a t ih=>rw[List.flatMap_cons,List.length_append,ih,List.length_cons];simp[En.cells];omega
theorem set5 (A ys:List Value)(a b c d f y0 y1 y2 y3 y4:Value)(p:Nat)(hp:A.length=p):(((((A++y0::y1::y2::y3::y4::ys).set p a).set (p+1) b).set (p+2) c).set (p+3) d).set (p+4) f=A++a::b::c::d::f::ys:=by
 subst hp
 simp
theorem xA {B:Nat}{e:TypeId}{g N cap p:Nat}{A ys:List Value}{y0 y1 y2 y3 y4:Value}{w:World}(h:w.ownsRow B e 5 (.slice (some ⟨g,0,none⟩) N cap) N (A++y0::y1::y2::y3::y4::ys))(hp:A.length=p)(a b c d f:Value):
  (((((w.setCell ⟨g,p,none⟩ a).setCell ⟨g,p+1,none⟩ b).setCell ⟨g,p+2,none⟩ c).setCell ⟨g,p+3,none⟩ d).setCell ⟨g,p+4,none⟩ f).ownsRow B e 5 (.slice (some ⟨g,0,none⟩) N cap) N (A++a::b::c::d::f::ys):=by
 have:=(((((h.stored p a).1.stored (p+1) b).1.stored (p+2) c).1.stored (p+3) d).1.stored (p+4) f).1
 rwa [set5 A ys a b c d f y0 y1 y2 y3 y4 p hp] at this
end Go.Proofs.YtammnaafdhhjaaaGreat
