/-
  No cell of these rows narrows 'for every input' (looked for: loops, veiled, ifaces, maps, wideKeys, modest, calm, conditions, laid).
  DERIVED. THE GIVEN ROWS OF THIS SEAT. 6 by the template 'for every input the law returns true; each argument reads behind the call as it read before'; 0 by the template 'total and deterministic' (their statements: YtammnaafdhhjaaaGreatTotals.lean).
  GIVEN WITH THE SEED: the statements are not yours to turn. If you find one false, say at which input.
  Laid BY PROGRAM, IN A SANDBOX (cutbox-rows.mjs): the forced cells as the released guide's own fill.sh prints them over the translation ccfb70dcd0f541c1… (all of the seat's roots in one cut). By AI agents, Wed Nov 11 2026. No macro, syntax, notation, axiom, sorry.
-/
import Derived.Test.YtammnaafdhhjaaaGreatChecked
import GoSem.Claim
import GoSem.ClaimJoined
import GoSem.ClaimMapViews
import Derived.JoinedTies
import Derived.KernelRfl
namespace Go.Proofs.YtammnaafdhhjaaaGreat
/- THE CELL 'sum', in the pinned program and in every row, IS THE sha256 OF THE DUMP (.gsa) THAT YtammnaafdhhjaaaGreatProg.lean LOADS. Nothing in Lean hashes anything: it is a label: what it is worth is what the hold of that sum in a sandbox is worth. -/
noncomputable def Tryz.pinned : Pinned := { name := "ytammnaafdhhjaaagreat", sum := "ccfb70dcd0f541c1bde9871edd9ba3ffb1f1230233990d9b6b4a7cdcfdfa3249", checked := Tryz.checked }
namespace Rows
def none {H : Type} : Left H := { results := [], args := [] }

/-- 'ferrylaw.Shards': WHATEVER THE INPUT: true; the input reads as it did. -/
def shardsSpec : ChangeSpec := { name := "shards", fn := fun _ => fun
  | [d1, d2] => { results := [.lit (.bool true)], args := [d1, d2] }
  | _ => none }
def shardsRow : OpenClaim := { program := "ytammnaafdhhjaaagreat", sum := "ccfb70dcd0f541c1bde9871edd9ba3ffb1f1230233990d9b6b4a7cdcfdfa3249", func := "ferry/ferrylaw.Shards", spec := "shards", inPlace := ["math.Float32bits", "math.Float32frombits"], unfollowed := true, recurses := true, plainKeys := false, apart := false }
def ShardsSaid : Prop := shardsRow.holds Tryz.pinned (OpenSpec.ofChange shardsSpec)

/-- ITS FALSE NEIGHBOUR: 'it returns false'. Refute it at one input. -/
def shardsWrong : ChangeSpec := { name := "shards", fn := fun _ => fun
  | [d1, d2] => { results := [.lit (.bool false)], args := [d1, d2] }
  | _ => none }
def ShardsWrongFalsely : Prop := shardsRow.holds Tryz.pinned (OpenSpec.ofChange shardsWrong)

/-- 'ferrylaw.Lasting': WHATEVER THE INPUT: true; the input reads as it did. -/
def lastingSpec : ChangeSpec := { name := "lasting", fn := fun _ => fun
  | [d1, d2, d3] => { results := [.lit (.bool true)], args := [d1, d2, d3] }
  | _ => none }
def lastingRow : OpenClaim := { program := "ytammnaafdhhjaaagreat", sum := "ccfb70dcd0f541c1bde9871edd9ba3ffb1f1230233990d9b6b4a7cdcfdfa3249", func := "ferry/ferrylaw.Lasting", spec := "lasting", inPlace := ["math.Float32bits", "math.Float32frombits"], unfollowed := true, recurses := true, plainKeys := false, apart := false }
def LastingSaid : Prop := lastingRow.holds Tryz.pinned (OpenSpec.ofChange lastingSpec)

/-- ITS FALSE NEIGHBOUR: 'it returns false'. Refute it at one input. -/
def lastingWrong : ChangeSpec := { name := "lasting", fn := fun _ => fun
  | [d1, d2, d3] => { results := [.lit (.bool false)], args := [d1, d2, d3] }
  | _ => none }
def LastingWrongFalsely : Prop := lastingRow.holds Tryz.pinned (OpenSpec.ofChange lastingWrong)

/-- 'ferrylaw.Pairs': WHATEVER THE INPUT: true; the input reads as it did. -/
def pairsSpec : ChangeSpec := { name := "pairs", fn := fun _ => fun
  | [d1, d2] => { results := [.lit (.bool true)], args := [d1, d2] }
  | _ => none }
def pairsRow : OpenClaim := { program := "ytammnaafdhhjaaagreat", sum := "ccfb70dcd0f541c1bde9871edd9ba3ffb1f1230233990d9b6b4a7cdcfdfa3249", func := "ferry/ferrylaw.Pairs", spec := "pairs", inPlace := ["math.Float32bits", "math.Float32frombits"], unfollowed := true, recurses := true, plainKeys := false, apart := false }
def PairsSaid : Prop := pairsRow.holds Tryz.pinned (OpenSpec.ofChange pairsSpec)

/-- ITS FALSE NEIGHBOUR: 'it returns false'. Refute it at one input. -/
def pairsWrong : ChangeSpec := { name := "pairs", fn := fun _ => fun
  | [d1, d2] => { results := [.lit (.bool false)], args := [d1, d2] }
  | _ => none }
def PairsWrongFalsely : Prop := pairsRow.holds Tryz.pinned (OpenSpec.ofChange pairsWrong)

/-- 'ferrylaw.Apart': WHATEVER THE INPUT: true; the input reads as it did. -/
def apartSpec : ChangeSpec := { name := "apart", fn := fun _ => fun
  | [d1, d2, d3, d4] => { results := [.lit (.bool true)], args := [d1, d2, d3, d4] }
  | _ => none }
def apartRow : OpenClaim := { program := "ytammnaafdhhjaaagreat", sum := "ccfb70dcd0f541c1bde9871edd9ba3ffb1f1230233990d9b6b4a7cdcfdfa3249", func := "ferry/ferrylaw.Apart", spec := "apart", inPlace := ["math.Float32bits", "math.Float32frombits"], unfollowed := true, recurses := true, plainKeys := false, apart := false }
def ApartSaid : Prop := apartRow.holds Tryz.pinned (OpenSpec.ofChange apartSpec)

/-- ITS FALSE NEIGHBOUR: 'it returns false'. Refute it at one input. -/
def apartWrong : ChangeSpec := { name := "apart", fn := fun _ => fun
  | [d1, d2, d3, d4] => { results := [.lit (.bool false)], args := [d1, d2, d3, d4] }
  | _ => none }
def ApartWrongFalsely : Prop := apartRow.holds Tryz.pinned (OpenSpec.ofChange apartWrong)

/-- 'ferrylaw.Once': WHATEVER THE INPUT: true; the input reads as it did. -/
def onceSpec : ChangeSpec := { name := "once", fn := fun _ => fun
  | [d1, d2] => { results := [.lit (.bool true)], args := [d1, d2] }
  | _ => none }
def onceRow : OpenClaim := { program := "ytammnaafdhhjaaagreat", sum := "ccfb70dcd0f541c1bde9871edd9ba3ffb1f1230233990d9b6b4a7cdcfdfa3249", func := "ferry/ferrylaw.Once", spec := "once", inPlace := ["math.Float32bits", "math.Float32frombits"], unfollowed := true, recurses := true, plainKeys := false, apart := false }
def OnceSaid : Prop := onceRow.holds Tryz.pinned (OpenSpec.ofChange onceSpec)

/-- ITS FALSE NEIGHBOUR: 'it returns false'. Refute it at one input. -/
def onceWrong : ChangeSpec := { name := "once", fn := fun _ => fun
  | [d1, d2] => { results := [.lit (.bool false)], args := [d1, d2] }
  | _ => none }
def OnceWrongFalsely : Prop := onceRow.holds Tryz.pinned (OpenSpec.ofChange onceWrong)

/-- 'ferrylaw.Arrives': WHATEVER THE INPUT: true; the input reads as it did. -/
def arrivesSpec : ChangeSpec := { name := "arrives", fn := fun _ => fun
  | [d1, d2] => { results := [.lit (.bool true)], args := [d1, d2] }
  | _ => none }
def arrivesRow : OpenClaim := { program := "ytammnaafdhhjaaagreat", sum := "ccfb70dcd0f541c1bde9871edd9ba3ffb1f1230233990d9b6b4a7cdcfdfa3249", func := "ferry/ferrylaw.Arrives", spec := "arrives", inPlace := ["math.Float32bits", "math.Float32frombits"], unfollowed := true, recurses := true, plainKeys := false, apart := false }
def ArrivesSaid : Prop := arrivesRow.holds Tryz.pinned (OpenSpec.ofChange arrivesSpec)

/-- ITS FALSE NEIGHBOUR: 'it returns false'. Refute it at one input. -/
def arrivesWrong : ChangeSpec := { name := "arrives", fn := fun _ => fun
  | [d1, d2] => { results := [.lit (.bool false)], args := [d1, d2] }
  | _ => none }
def ArrivesWrongFalsely : Prop := arrivesRow.holds Tryz.pinned (OpenSpec.ofChange arrivesWrong)

/- THE SECOND FORM. 'bulk': how many values and letters a reading holds, each counted each time it is reached (what is shared counts as often as it is met; a slice's spare places count too). A statement '..UptoSaid' is the law's where the arguments, and the package variables that the reading takes, are together of bulk at most 1048576: NARROWER than '..Said'. Prove '..Said' where nothing that the law and all that it calls make is longer than what came in: it says more and counts as full. Else prove '..UptoSaid'. A law counts once. -/
mutual
def uptoBulk {H : Type} : DataW H → Nat
  | .lit (.string bytes) => bytes.length + 1
  | .lit _ => 1
  | .nil => 1
  | .ptr d => uptoBulk d + 1
  | .slice elems spare => uptoBulkAll elems + uptoBulkAll spare + 1
  | .agg parts => uptoBulkAll parts + 1
  | .iface _ d => uptoBulk d + 1
  | .map entries => uptoBulkEntries entries + 1
  | .held _ => 1
def uptoBulkAll {H : Type} : List (DataW H) → Nat
  | [] => 0
  | d :: r => uptoBulk d + uptoBulkAll r
def uptoBulkEntries {H : Type} : List (Lit × DataW H) → Nat
  | [] => 0
  | x :: r => uptoBulkEntry x + uptoBulkEntries r
def uptoBulkEntry {H : Type} : Lit × DataW H → Nat
  | (.string bytes, d) => bytes.length + uptoBulk d + 1
  | (_, d) => uptoBulk d + 1
 end
def uptoSmall : (H : Type) → List (DataW H) → Bool := fun _ ds => decide (uptoBulkAll ds ≤ 1048576)
def OpenSpec.upto (s : _root_.Go.ChangeSpec) : _root_.Go.OpenSpec := { _root_.Go.OpenSpec.ofChange s with cond := some uptoSmall }

/-- 'ferrylaw.Shards', WHERE WHAT IT READS IS OF BULK AT MOST 1048576: true; the input reads as it did. -/
def shardsUptoRow : OpenClaim := { program := "ytammnaafdhhjaaagreat", sum := "ccfb70dcd0f541c1bde9871edd9ba3ffb1f1230233990d9b6b4a7cdcfdfa3249", func := "ferry/ferrylaw.Shards", spec := "shards", inPlace := ["math.Float32bits", "math.Float32frombits"], unfollowed := true, recurses := true, plainKeys := false, apart := false, narrowed := true }
def ShardsUptoSaid : Prop := shardsUptoRow.holds Tryz.pinned (OpenSpec.upto shardsSpec)

/-- 'ferrylaw.Lasting', WHERE WHAT IT READS IS OF BULK AT MOST 1048576: true; the input reads as it did. -/
def lastingUptoRow : OpenClaim := { program := "ytammnaafdhhjaaagreat", sum := "ccfb70dcd0f541c1bde9871edd9ba3ffb1f1230233990d9b6b4a7cdcfdfa3249", func := "ferry/ferrylaw.Lasting", spec := "lasting", inPlace := ["math.Float32bits", "math.Float32frombits"], unfollowed := true, recurses := true, plainKeys := false, apart := false, narrowed := true }
def LastingUptoSaid : Prop := lastingUptoRow.holds Tryz.pinned (OpenSpec.upto lastingSpec)

/-- 'ferrylaw.Pairs', WHERE WHAT IT READS IS OF BULK AT MOST 1048576: true; the input reads as it did. -/
def pairsUptoRow : OpenClaim := { program := "ytammnaafdhhjaaagreat", sum := "ccfb70dcd0f541c1bde9871edd9ba3ffb1f1230233990d9b6b4a7cdcfdfa3249", func := "ferry/ferrylaw.Pairs", spec := "pairs", inPlace := ["math.Float32bits", "math.Float32frombits"], unfollowed := true, recurses := true, plainKeys := false, apart := false, narrowed := true }
def PairsUptoSaid : Prop := pairsUptoRow.holds Tryz.pinned (OpenSpec.upto pairsSpec)

/-- 'ferrylaw.Apart', WHERE WHAT IT READS IS OF BULK AT MOST 1048576: true; the input reads as it did. -/
def apartUptoRow : OpenClaim := { program := "ytammnaafdhhjaaagreat", sum := "ccfb70dcd0f541c1bde9871edd9ba3ffb1f1230233990d9b6b4a7cdcfdfa3249", func := "ferry/ferrylaw.Apart", spec := "apart", inPlace := ["math.Float32bits", "math.Float32frombits"], unfollowed := true, recurses := true, plainKeys := false, apart := false, narrowed := true }
def ApartUptoSaid : Prop := apartUptoRow.holds Tryz.pinned (OpenSpec.upto apartSpec)

/-- 'ferrylaw.Once', WHERE WHAT IT READS IS OF BULK AT MOST 1048576: true; the input reads as it did. -/
def onceUptoRow : OpenClaim := { program := "ytammnaafdhhjaaagreat", sum := "ccfb70dcd0f541c1bde9871edd9ba3ffb1f1230233990d9b6b4a7cdcfdfa3249", func := "ferry/ferrylaw.Once", spec := "once", inPlace := ["math.Float32bits", "math.Float32frombits"], unfollowed := true, recurses := true, plainKeys := false, apart := false, narrowed := true }
def OnceUptoSaid : Prop := onceUptoRow.holds Tryz.pinned (OpenSpec.upto onceSpec)

/-- 'ferrylaw.Arrives', WHERE WHAT IT READS IS OF BULK AT MOST 1048576: true; the input reads as it did. -/
def arrivesUptoRow : OpenClaim := { program := "ytammnaafdhhjaaagreat", sum := "ccfb70dcd0f541c1bde9871edd9ba3ffb1f1230233990d9b6b4a7cdcfdfa3249", func := "ferry/ferrylaw.Arrives", spec := "arrives", inPlace := ["math.Float32bits", "math.Float32frombits"], unfollowed := true, recurses := true, plainKeys := false, apart := false, narrowed := true }
def ArrivesUptoSaid : Prop := arrivesUptoRow.holds Tryz.pinned (OpenSpec.upto arrivesSpec)

end Rows
end Go.Proofs.YtammnaafdhhjaaaGreat
