import Derived.Test.YtammnaafdhhjaaaGreatK1
set_option maxHeartbeats 16000000
set_option maxRecDepth 100000
namespace Go.Proofs.YtammnaafdhhjaaaGreat
open Go.RowKit Go.Shelf Go.MapKept Go.Proofs.Tryz
attribute [local go_sem] Oper.semAt_some
theorem aFB {W W':World}(h:KeepsOthers W W'):KeepsWalks W W':=⟨h.size,fun k o hk ho=>h.same k o hk (by cases o<;>first | rfl | cases ho)⟩
def BoxI (W:World)(B:Nat)(x:It):Prop:=W.heap[B]?=some (.cells #[.int .i64 x.sh,.int .i64 x.nu,.float .f32 x.pl,.float .f32 x.sp] 75 (0,0))
theorem BoxI.at_ {W:World}{B:Nat}{x:It}(h:BoxI W B x):∀j u,x.cells[j]?=some u->W.cell? ⟨B,j,none⟩=some u:=fun j u hu=>by
 rw[cell_of_row _ B j #[.int .i64 x.sh,.int .i64 x.nu,.float .f32 x.pl,.float .f32 x.sp] 75 (0,0) h]
 show (x.cells.toArray)[j]?=some u
 simpa using hu
theorem BoxI.kept {W W':World}{row:Option Nat}{B:Nat}{x:It}(h:BoxI W B x)(hg:W.grownBy W' row)(hne:some B≠row):BoxI W' B x:=(hg.block B (Array.getElem?_eq_some_iff.1 h).1 hne).trans h
theorem aFC (B:Nat)(x:It):Go.Own (fun (_:Unit) W=>BoxI W B x):=fun _ X Y row hs hg hrow=>
 hs.kept hg (fun e'=>by obtain ⟨o,ho,hc⟩:=hrow B e'.symm;rw[show X.heap[B]?=_ from hs] at ho;cases ho;cases hc)
def apI (w:World)(pre:List It)(W:World):Prop:=(∃v,Boxed W w.heap.size 37 v/\W.ownsRow w.heap.size 75 4 v pre.length (pre.flatMap It.cells)/\True)/\Below w.heap.size w W
def apA (sv:Value)(w:World)(x:It)(a':Act)(W:World):Prop:=∃Bx,w.heap.size<Bx/\BoxI W Bx x/\a'={tmps:=#[.slice none 0 0,sv,.pointer (some ⟨w.heap.size,0,none⟩),undef,.slice none 0 0,.pointer (some ⟨Bx,0,none⟩),sv,kD x,undef,undef,undef,undef,undef],defers:=[]}
theorem vP (F:Fence)(n:Nat)(hf:F.fn 194)(hro:F.round=none)(hn:2<=n)(g:Nat)(lb:Array Value)(hFg:F.fn g)(eg:∀args w,(callFunc g args).run prog w=.ok (.enter g args) w)
  (th:List It) (hN:th.length<=1000) (w:World) (hseq:SeqStopsK F (n -1) prog g lb (fun x:It=>#[kD x]) KeepsWalks (fun ss=>ss.Perm th) (fun _=>True) th.length w):
  CallsIn F n prog 194 #[.slice none 0 0,.func (.func g) #[] lb] w fun e W'=>∃v,∃ss:List It,e=.returned v/\ss.Perm th/\W'.ownsRow w.heap.size 75 4 v ss.length (ss.flatMap It.cells)/\Below w.heap.size w W':=by
 have h1:1<=n:=by omega
 obtain ⟨i0,hi,hz0,hz1,hz2⟩:=nW
 refine callsIn_of_wp_marks func194 rfl hf ?_ hro
 simp only[ntmps194,List.size_toArray,List.length_cons,List.length_nil,Nat.reduceAdd,Nat.reduceSub,Array.replicate_succ,Array.replicate_zero,List.push_toArray,List.append_toArray,List.nil_append,List.cons_append]
 gi_wp2
 have bO:=Boxed.new w 37 (.slice none 0 0)
 have hB0:Below w.heap.size w (w.alloc (.cells #[.slice none 0 0] 37)):=(Below.refl _ w).alloc (Nat.le_refl _) _
 refine wpIn_rangeFunc_ownH hro h1 (gf:=g) (lb:=lb) rfl hFg eg hseq walksK_t (walksK_b) hB0 (fun _=>rfl) (apI w) (fun _ _ _=>False) ?hI (fun _ _ _ _ _ hs _ _=>hs) ?h0 (apA (.func (.func g) #[] lb) w) ?hAx ?assign ?cG ?done ?stop
 case hI=>exact OwnFrom.and (Go.Own.from (holdsRow_own w.heap.size w.heap.size 37 75 4 (fun pre:List It=>pre.length) (fun pre:List It=>pre.flatMap It.cells) (fun _ _=>True)) _) (ownFrom_below (Nat.le_refl _) (by simp))
 case h0=>exact ⟨⟨_,bO,World.ownsRow_nil _ _ _ _,trivial⟩,hB0⟩
 case hAx=>
  rintro x a' u W W' row ⟨Bx,hlt,hb,ha⟩ hg hr
  exact ⟨Bx,hlt,(Go.Own.from (aFC Bx x) _) () W W' row hb hg hr,ha⟩
 case assign=>
  rintro l pre x W K ⟨⟨v,hv,hrow,_⟩,hB⟩ hK
  have hsf:=aK
  unfold kD
  gi_wp2
  exact hK _ _ ((KeepsOthers.alloc _ _).from _) (KeepsWalks.alloc _ _) ⟨⟨v,hv.alloc _,hrow.alloc _,trivial⟩,hB.alloc hB.size _⟩ ⟨W.heap.size,hv.lt,heap_alloc_new W _,rfl⟩
 case cG=>
  rintro l pre x a' W hl ⟨r,hr⟩ ⟨⟨v,hv,hrow,_⟩,hB⟩ ⟨Bx,hBx,bX,rfl⟩ hlt
  have hc:=hv.cell
  have x0:=bX.at_ 0 _ rfl
  have x1:=bX.at_ 1 _ rfl
  have x2:=bX.at_ 2 _ rfl
  have x3:=bX.at_ 3 _ rfl
  gi_wp2_with (gi_at_builtin;refine wpListIn_append_own _ rfl _ _ 37 rfl w.heap.size 75 i0 _ 4 24 underlying37 hi hz0 hz1 hz2 rfl (by decide) _ _ _ rfl (hrow.alloc _) ⟨W.heap.size,0,none⟩ 1 1 x.cells rfl rfl (aW _ x.cells _ _ rfl) (by simp[It.cells,Value.oneCell']) (by unfold maxLen;omega) (by omega) (by have:=hB.size;simp;omega) ?_;intro v' w1 hown' hgrow _;obtain ⟨g',cap',rfl⟩:=ownsRow_succ hown';obtain ⟨hv1,hv2,hr2,hk2,hb2⟩:=hv.appended (by decide) hrow hB.size (Nat.le_refl _) hown' hgrow;have hc1:=hv1.cell;have hf1:=hv1.frozen)
  refine ⟨hk2.from _,aFB hk2,⟨_,hv2,?_,trivial⟩,hB.trans hb2⟩
  rw[List.length_append,List.flatMap_append,List.flatMap_singleton]
  exact hr2
 case done=>
  rintro D ys W hD hp ⟨⟨v,hv,hrow,_⟩,hB⟩ hK
  have hc:=hv.cell
  gi_wp2
  refine ⟨by simp,.inl ⟨_,_,rfl,run_takeDeferred hK,?_⟩⟩
  exact ⟨_,results_tmp rfl _ _ _,v,ys,rfl,hp,ownsRow_putObj hrow _ hK rfl,hB.trans (belowK_b (w:=w) (Nat.le_refl _) W D _ _ (by simp at hD;omega) hK rfl rfl)⟩
 case stop=>
  rintro D c pre W _ _ h _
  exact h.elim
theorem aAB (F:Fence)(n:Nat)(hf:F.fn 194)(hc:F.fn 164)(hro:F.round=none)(hn:3<=n)(g:Nat)(lb:Array Value)(hFg:F.fn g)(eg:∀args w,(callFunc g args).run prog w=.ok (.enter g args) w)
  (th:List It) (hN:th.length<=1000) (w:World) (hseq:SeqStopsK F (n -1 -1) prog g lb (fun x:It=>#[kD x]) KeepsWalks (fun ss=>ss.Perm th) (fun _=>True) th.length w):
  CallsIn F n prog 164 #[.func (.func g) #[] lb] w fun e W'=>∃v,∃ss:List It,e=.returned v/\ss.Perm th/\W'.ownsRow w.heap.size 75 4 v ss.length (ss.flatMap It.cells)/\Below w.heap.size w W':=by
 have h1:1<=n:=by omega
 refine callsIn_of_wp func164 rfl hc ?_ hro
 simp only[ntmps164,List.size_toArray,List.length_cons,List.length_nil,Nat.reduceAdd,Nat.reduceSub,Array.replicate_succ,Array.replicate_zero,List.push_toArray,List.append_toArray,List.nil_append,List.cons_append]
 gi_wp2_with (gi_at_call 194;refine (vP F (n -1) hf hro (by omega) g lb hFg eg th hN w hseq).mono ?_;rintro e w' ⟨v,ss,rfl,hp,hr,hb⟩)
 go_ret
 exact ⟨v,ss,rfl,hp,hr,hb⟩
end Go.Proofs.YtammnaafdhhjaaaGreat
