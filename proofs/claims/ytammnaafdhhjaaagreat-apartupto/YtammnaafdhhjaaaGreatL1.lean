import Derived.Lib.SmallJoins
import Derived.Test.YtammnaafdhhjaaaGreatJP1
set_option maxHeartbeats 16000000
set_option maxRecDepth 100000
namespace Go.Proofs.YtammnaafdhhjaaaGreat
open Go.ChangeShapes Go.WideShapes Go.ChangeAt Go.RowKit Go.Proofs.Tryz
section
variable {H : Type} {enc : TypeId × Value -> H} {W : World} {sp : Nat -> Bool}
theorem aCp:prog.cellsOf 32=2:=by kernel_rfl
theorem zN:prog.cellsOf 33=1:=by kernel_rfl
theorem gD:prog.cellsOf 3=1:=by kernel_rfl
theorem aGO {P:Program}{k:FloatKind}{t:TypeId}{fuel:Nat}{cs:List Value}{x:DataW H×List MemPlace}(ht:P.underlying t=some (.float k))(h:DataW.trod enc P W 0 sp true fuel t cs=some x):∃b,cs=[.float k b]/\(Lit.float k b).wf=true:=by
 cases fuel with
 | zero=>simp[DataW.trod] at h
 | succ n=>
  unfold DataW.trod at h
  rw[ht] at h
  split at h<;>simp_all
theorem zO {fuel:Nat}{cs:List Value}{x:DataW H×List MemPlace}(h:DataW.trod enc prog W 0 sp true fuel 33 cs=some x):∃b,cs=[.float .f32 b]/\b<4294967296:=by
 obtain ⟨b,hb,hw⟩:=aGO underlying33 h
 exact ⟨b,hb,of_decide_eq_true hw⟩
theorem sQ {fuel:Nat}{t:TypeId}{fs:Array Field}{cs:List Value}{x:DataW H×List MemPlace}(ht:prog.underlying t=some (.struct fs))(h:DataW.trod enc prog W 0 sp true fuel t cs=some x):
  cs.length=prog.cellsOf t/\∃n,∀(i:Nat) (f:Field),fs[i]?=some f->∃y,DataW.trod enc prog W 0 sp true n f.type ((cs.drop f.offset).take (prog.cellsOf f.type))=some y:=by
 obtain ⟨xs,n,_,_,hl,hx,hf⟩:=DataW.trod_struct ht h
 refine ⟨hl,n,fun i f hi=>?_⟩
 have hlt:i<xs.length:=by rw[hx];exact (Array.getElem?_eq_some_iff.1 hi).1
 exact ⟨xs[i],by rw[hf i f hi,List.getElem?_eq_getElem hlt]⟩
theorem aGP {α:Type}(cells:α->List Value)(size:Nat)(hs:0<size)(hsz:∀x,(cells x).length=size)(xs:List α)(a:Addr)(c:Nat)
  (flat:∀k j (hk:k<xs.length),j<size->(xs.flatMap cells)[size * k+j]?=(cells xs[k])[j]?)
  (h:∀k (hk:k<xs.length) j u,(cells xs[k])[j]?=some u->W.cell? ((a.add (k * size)).add j)=some u):Lies W (.slice (some a) xs.length c) xs.length (xs.flatMap cells):=by
 refine ⟨some a,c,rfl,fun hp=>?_⟩
 obtain ⟨b,off,spot⟩:=a
 have hspot:spot=none:=by
  have h0:=h 0 hp 0 _ (List.getElem?_eq_getElem (by rw[hsz];exact hs))
  rw[Deep.add_add,Nat.zero_mul,Nat.add_zero] at h0
  have h1:((⟨b,off,spot⟩:Addr).add 0).spot=none:=World.cell?_spot h0
  unfold Addr.add at h1
  simpa using h1
 subst hspot
 refine ⟨b,off,rfl,fun j u hu=>?_⟩
 have hjl:j<xs.length * size:=by
  have hl:(xs.flatMap cells).length=xs.length * size:=by
   rw[List.length_flatMap]
   have:(xs.map fun x=>(cells x).length)=xs.map fun _=>size:=List.map_congr_left fun x _=>hsz x
   rw[this,List.map_const',List.sum_replicate_nat]
  have:=(List.getElem?_eq_some_iff.1 hu).1
  omega
 have hq:j / size<xs.length:=Nat.div_lt_of_lt_mul (by rw[Nat.mul_comm];exact hjl)
 have hr:j % size<size:=Nat.mod_lt _ hs
 have e:size * (j / size)+j % size=j:=Nat.div_add_mod j size
 have hh:=h (j / size) hq (j % size) u (by rw[<- flat _ _ hq hr,e];exact hu)
 rw[Deep.add_add] at hh
 have e2:j / size * size+j % size=j:=by rw[Nat.mul_comm];exact e
 rw[e2] at hh
 rw[show (⟨b,off+j,none⟩:Addr)=(⟨b,off,none⟩:Addr).add j by unfold Addr.add;split<;>simp_all]
 exact hh
end
end Go.Proofs.YtammnaafdhhjaaaGreat
