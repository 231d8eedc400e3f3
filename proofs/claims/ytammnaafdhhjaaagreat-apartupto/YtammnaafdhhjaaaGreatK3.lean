import Derived.Shelf.SlSortCmp.NoneTotal
import Derived.Test.YtammnaafdhhjaaaGreatK2
set_option maxHeartbeats 16000000
set_option maxRecDepth 100000
namespace Go.Proofs.YtammnaafdhhjaaaGreat
open Go.RowKit Go.Shelf Go.Lib Go.Sort Go.Proofs.Tryz
shelf_lay_g SlLaysF0.n6 Slsf 6 at Tryz 165 as Tryz.sortItems
def lT (x y:It):Int:=fO x.sh x.nu y.sh y.nu
theorem aKa (w:World)(a b c:Obj):(((w.alloc a).alloc b).alloc c).drew=grow (w.drewN 1) #[a,b,c]:=by
 rw[alloc_eq_grow,alloc_eq_grow,alloc_eq_grow,grow_grow,grow_grow]
 rfl
theorem aKb (W:World)(a b:Obj)(q:Nat)(os:Array Obj):grow (((W.alloc a).alloc b).drewN q) os=grow (W.drewN q) (#[a,b]++os):=by
 rw[<- grow_grow,alloc_eq_grow,alloc_eq_grow,grow_grow]
 rfl
theorem vQ (a b c d:Int)(w:World):
  Calls prog 138 #[.agg #[.int .i64 a,.int .i64 b],.agg #[.int .i64 c,.int .i64 d]] w fun e w'=>e=.returned (.int .i64 (fO a b c d))/\∃q os',w'=grow (w.drewN q) os':=by
 go_enter func138,ntmps138
 go_wp2
 go_region_held3 (fun w'=>w'.cell? ⟨w.heap.size,0,none⟩=some (.int .i64 a)/\w'.cell? ⟨w.heap.size,1,none⟩=some (.int .i64 b)/\w'.cell? ⟨w.heap.size+1,0,none⟩=some (.int .i64 c)/\w'.cell? ⟨w.heap.size+1,1,none⟩=some (.int .i64 d)) (go_keep)
  (first | (go_at_call 168;refine (aBt _ _ _).mono ?_;rintro e w' ⟨rfl,rfl⟩) | (go_at_call 167;refine (aEs (nY a c) (nY b d) _ _ ?_ ?_).mono ?_;(go_simp);(go_simp);rintro e w' ⟨rfl,rfl⟩))
 go_wp2
 go_ret
 exact ⟨rfl,1,_,aKa w _ _ _⟩
theorem xT (x y:It)(W:World):Calls prog 137 #[kD x,kD y] W fun e w'=>e=.returned (.int .i64 (lT x y))/\∃q os',w'=grow (W.drewN q) os':=by
 unfold kD lT
 go_enter func137,ntmps137
 go_wp2_with fail
 refine Calls.mono (vQ x.sh x.nu y.sh y.nu _) ?_
 rintro e w1 ⟨rfl,q,os,rfl⟩
 go_wp2
 go_ret
 exact ⟨rfl,q,_,aKb W _ _ q os⟩
theorem aHv [Inhabited It](qG off size:Nat)(w:World):CmpLays prog 137 #[] It.cells 4 lT qG off size w:=fun _ _ _ _ x y=>xT x y _
theorem aBO (x y:It):ltOf lT x y=decide (x.sh<y.sh∨(x.sh=y.sh/\x.nu<y.nu)):=by
 unfold ltOf lT fO orI nY
 apply decide_eq_decide.2
 by_cases h1:x.sh<y.sh
 ·simp[h1]
 ·by_cases h2:y.sh<x.sh
  ·simp[h1,h2]
   omega
  ·by_cases h3:x.nu<y.nu
   ·simp[h1,h2,h3];omega
   ·by_cases h4:y.nu<x.nu
    ·simp[h1,h2,h3,h4]
    ·simp[h1,h2,h3,h4]
theorem aIY:SWO (ltOf lT) where
 irrefl x:=by rw[aBO];simp
 trans x y z h1 h2:=by rw[aBO] at *;simp at *;omega
 ntrans x y z h1 h2:=by rw[aBO] at *;simp at *;omega
theorem pV [Inhabited It](d:Array It):(flatK It.cells 4 d).toList=d.toList.flatMap It.cells:=by
 apply List.ext_getElem?
 intro t
 by_cases ht:t<d.size * 4
 ·have hq:t / 4<d.toList.length:=by simp;omega
  have hr:t % 4<4:=Nat.mod_lt _ (by decide)
  have e1:(d.toList.flatMap It.cells)[t]?=(d.toList[t / 4]).cells[t % 4]?:=by
   rw[<- cQ d.toList (t / 4) (t % 4) hq hr]
   congr 1
   omega
  have e2:(flatK It.cells 4 d).toList[t]?=some (flatK It.cells 4 d)[t]! :=by
   rw[Array.getElem?_toList,Array.getElem?_eq_getElem (by simpa using ht),getElem!_pos _ t (by simpa using ht)]
  rw[e1,e2,get_flatK _ _ _ _ ht]
  have hd:d[t / 4]! =d.toList[t / 4]:=by rw[getElem!_pos _ _ (by simp at hq;exact hq)];simp
  rw[hd,List.getElem?_eq_getElem (by exact hr),getElem!_pos _ _ (by exact hr)]
 ·rw[List.getElem?_eq_none (by simp;omega),List.getElem?_eq_none (by rw[mH];simp;omega)]
end Go.Proofs.YtammnaafdhhjaaaGreat
