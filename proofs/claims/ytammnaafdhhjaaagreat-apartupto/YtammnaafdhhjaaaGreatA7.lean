import Derived.Test.YtammnaafdhhjaaaGreatJG13
import Derived.Test.YtammnaafdhhjaaaGreatA6
set_option maxHeartbeats 16000000
set_option maxRecDepth 100000
namespace Go.Proofs.YtammnaafdhhjaaaGreat
open Go.RowKit Go.Proofs.Tryz
theorem yJ (B b bd bm:Nat)(ov:Value)(s:Sh)(q:Int)(i:It)(m:Mk)(ai ao:Option Addr)(ni ci no co:Nat)(w:World)(h:HS w B b s bd bm ov)(hl:s.ob.length<=1000):
  Calls prog 89 #[.pointer (some ⟨b,0,none⟩),rv 5 q i m (.slice ai ni ci) (.slice ao no co)] w fun e w'=>e=.returned (.tuple #[])/\∃ov',HS w' B b (s.doAcked q) bd bm ov'/\Only w w' (HS.foot b bm ov)/\(∀j,ov'.ownBlock=some j->ov.ownBlock=some j∨w.heap.size<=j):=by
 have hbl:=h.at_.lt
 have G0:=Hid.mk' (aA (World.grownBy_alloc w (.cells #[.int .i64 5,.int .i64 q,.int .i64 i.sh,.int .i64 i.nu,.float .f32 i.pl,.float .f32 i.sp,.int .i64 m.g,.int .i64 m.m,.int .i64 m.s,.int .i64 m.a,.int .i64 m.n,.slice ai ni ci,.slice ao no co] 139) none))
 have AC:=Hid.mk' (aDj B b bd bm ov s q _ (h.grown G0.out) hl)
 clear h hl
 unfold rv
 go_enter func89,ntmps89
 go_wp2_with fail
 go_region_law (first | (go_simp;go_at_call 144;refine Calls.mono AC.out ?_;rintro e w1 ⟨rfl,ov1,h1,o1,v1⟩))
 all_goals
  go_wp2
  refine bodyPost_end (v:=.tuple #[]) (by simp[results,results89]) rfl ⟨rfl,ov1,h1,((Only.grown G0.out).mono (by simp)).trans (o1.mono (fun _ _ e=>.inl e)),fun j hj=>?_⟩
  rcases v1 j hj with e | e
  ·exact .inl e
  ·exact .inr (Nat.le_trans G0.out.size e)
end Go.Proofs.YtammnaafdhhjaaaGreat
