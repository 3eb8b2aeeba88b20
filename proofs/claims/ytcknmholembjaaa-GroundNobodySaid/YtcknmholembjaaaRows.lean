/-
  No cell of these rows narrows 'for every input' (looked for: loops, veiled, ifaces, maps, wideKeys, modest, calm, conditions, laid).
  DERIVED. THE GIVEN ROWS OF THIS SEAT. 4 by the template 'for every input the law returns true; each argument reads behind the call as it read before'; 0 by the template 'total and deterministic' (their statements: YtcknmholembjaaaTotals.lean).
  GIVEN WITH THE SEED: the statements are not yours to turn. If you find one false, say at which input.
  Laid BY PROGRAM, IN A SANDBOX (cutbox-rows.mjs): the forced cells as the released guide's own fill.sh prints them over the translation ee0b4015fcd7f68c… (all of the seat's roots in one cut). By AI agents, Wed Nov 11 2026. No macro, syntax, notation, axiom, sorry.
-/
import Derived.Test.YtcknmholembjaaaChecked
import GoSem.Claim
import GoSem.ClaimJoined
import GoSem.ClaimMapViews
import Derived.JoinedTies
import Derived.KernelRfl
namespace Go.Proofs.Ytcknmholembjaaa
/- THE CELL 'sum', in the pinned program and in every row, IS THE sha256 OF THE DUMP (.gsa) THAT YtcknmholembjaaaProg.lean LOADS. Nothing in Lean hashes anything: it is a label: what it is worth is what the hold of that sum in a sandbox is worth. -/
noncomputable def Try.pinned : Pinned := { name := "ytcknmholembjaaa", sum := "ee0b4015fcd7f68c96d90cfba62a5df4db66cb0e2cee9d95a926037b4fb880e2", checked := Try.checked }
namespace Rows
def none {H : Type} : Left H := { results := [], args := [] }

/-- 'quitrentlaw05.GroundPlays': WHATEVER THE INPUT: true; the input reads as it did. -/
def groundPlaysSpec : ChangeSpec := { name := "groundPlays", fn := fun _ => fun
  | [d1, d2] => { results := [.lit (.bool true)], args := [d1, d2] }
  | _ => none }
def groundPlaysRow : OpenClaim := { program := "ytcknmholembjaaa", sum := "ee0b4015fcd7f68c96d90cfba62a5df4db66cb0e2cee9d95a926037b4fb880e2", func := "quitrent/quitrentlaw05.GroundPlays", spec := "groundPlays", inPlace := ["sync/atomic.AddUint64", "sync/atomic.LoadUint64"], apart := false }
def GroundPlaysSaid : Prop := groundPlaysRow.holds Try.pinned (OpenSpec.ofChange groundPlaysSpec)

/-- ITS FALSE NEIGHBOUR: 'it returns false'. Refute it at one input. -/
def groundPlaysWrong : ChangeSpec := { name := "groundPlays", fn := fun _ => fun
  | [d1, d2] => { results := [.lit (.bool false)], args := [d1, d2] }
  | _ => none }
def GroundPlaysWrongFalsely : Prop := groundPlaysRow.holds Try.pinned (OpenSpec.ofChange groundPlaysWrong)

/-- 'quitrentlaw05.GroundLoads': WHATEVER THE INPUT: true; the input reads as it did. -/
def groundLoadsSpec : ChangeSpec := { name := "groundLoads", fn := fun _ => fun
  | [d1, d2, d3] => { results := [.lit (.bool true)], args := [d1, d2, d3] }
  | _ => none }
def groundLoadsRow : OpenClaim := { program := "ytcknmholembjaaa", sum := "ee0b4015fcd7f68c96d90cfba62a5df4db66cb0e2cee9d95a926037b4fb880e2", func := "quitrent/quitrentlaw05.GroundLoads", spec := "groundLoads", inPlace := ["sync/atomic.AddUint64", "sync/atomic.LoadUint64"], apart := false }
def GroundLoadsSaid : Prop := groundLoadsRow.holds Try.pinned (OpenSpec.ofChange groundLoadsSpec)

/-- ITS FALSE NEIGHBOUR: 'it returns false'. Refute it at one input. -/
def groundLoadsWrong : ChangeSpec := { name := "groundLoads", fn := fun _ => fun
  | [d1, d2, d3] => { results := [.lit (.bool false)], args := [d1, d2, d3] }
  | _ => none }
def GroundLoadsWrongFalsely : Prop := groundLoadsRow.holds Try.pinned (OpenSpec.ofChange groundLoadsWrong)

/-- 'quitrentlaw05.GroundApart': WHATEVER THE INPUT: true; the input reads as it did. -/
def groundApartSpec : ChangeSpec := { name := "groundApart", fn := fun _ => fun
  | [d1, d2, d3] => { results := [.lit (.bool true)], args := [d1, d2, d3] }
  | _ => none }
def groundApartRow : OpenClaim := { program := "ytcknmholembjaaa", sum := "ee0b4015fcd7f68c96d90cfba62a5df4db66cb0e2cee9d95a926037b4fb880e2", func := "quitrent/quitrentlaw05.GroundApart", spec := "groundApart", inPlace := ["sync/atomic.AddUint64", "sync/atomic.LoadUint64"], apart := false }
def GroundApartSaid : Prop := groundApartRow.holds Try.pinned (OpenSpec.ofChange groundApartSpec)

/-- ITS FALSE NEIGHBOUR: 'it returns false'. Refute it at one input. -/
def groundApartWrong : ChangeSpec := { name := "groundApart", fn := fun _ => fun
  | [d1, d2, d3] => { results := [.lit (.bool false)], args := [d1, d2, d3] }
  | _ => none }
def GroundApartWrongFalsely : Prop := groundApartRow.holds Try.pinned (OpenSpec.ofChange groundApartWrong)

/-- 'quitrentlaw05.GroundNobody': WHATEVER THE INPUT: true; the input reads as it did. -/
def groundNobodySpec : ChangeSpec := { name := "groundNobody", fn := fun _ => fun
  | [d1, d2, d3] => { results := [.lit (.bool true)], args := [d1, d2, d3] }
  | _ => none }
def groundNobodyRow : OpenClaim := { program := "ytcknmholembjaaa", sum := "ee0b4015fcd7f68c96d90cfba62a5df4db66cb0e2cee9d95a926037b4fb880e2", func := "quitrent/quitrentlaw05.GroundNobody", spec := "groundNobody", inPlace := ["sync/atomic.AddUint64", "sync/atomic.LoadUint64"], apart := false }
def GroundNobodySaid : Prop := groundNobodyRow.holds Try.pinned (OpenSpec.ofChange groundNobodySpec)

/-- ITS FALSE NEIGHBOUR: 'it returns false'. Refute it at one input. -/
def groundNobodyWrong : ChangeSpec := { name := "groundNobody", fn := fun _ => fun
  | [d1, d2, d3] => { results := [.lit (.bool false)], args := [d1, d2, d3] }
  | _ => none }
def GroundNobodyWrongFalsely : Prop := groundNobodyRow.holds Try.pinned (OpenSpec.ofChange groundNobodyWrong)

/- THE SECOND FORM. 'bulk': how many values and letters a reading holds, each counted each time it is reached (what is shared counts as often as it is met; a slice's spare places count too). A statement '..UptoSaid' is the law's where the arguments, and the package variables that the reading takes, are together of bulk at most 1048576: NARROWER than '..Said'. Prove '..Said' where nothing that the law and all that it calls make is longer than what came in: it says more and counts as full. Else prove '..UptoSaid'. A law counts once. -/
mutual
def uptoBulk {H : Type} : DataW H → Nat
  | .lit (.string bytes) => bytes.length + 1
  | .lit _ => 1
  | .nil => 1
  | .ptr d => uptoBulk d + 1
  | .slice elems spare => uptoBulkAll elems + uptoBulkAll spare + 1
  | .agg parts => uptoBulkAll parts + 1
  | .iface _ d => uptoBulk d + 1
  | .map entries => uptoBulkEntries entries + 1
  | .held _ => 1
def uptoBulkAll {H : Type} : List (DataW H) → Nat
  | [] => 0
  | d :: r => uptoBulk d + uptoBulkAll r
def uptoBulkEntries {H : Type} : List (Lit × DataW H) → Nat
  | [] => 0
  | x :: r => uptoBulkEntry x + uptoBulkEntries r
def uptoBulkEntry {H : Type} : Lit × DataW H → Nat
  | (.string bytes, d) => bytes.length + uptoBulk d + 1
  | (_, d) => uptoBulk d + 1
 end
def uptoSmall : (H : Type) → List (DataW H) → Bool := fun _ ds => decide (uptoBulkAll ds ≤ 1048576)
def OpenSpec.upto (s : _root_.Go.ChangeSpec) : _root_.Go.OpenSpec := { _root_.Go.OpenSpec.ofChange s with cond := some uptoSmall }

/-- 'quitrentlaw05.GroundPlays', WHERE WHAT IT READS IS OF BULK AT MOST 1048576: true; the input reads as it did. -/
def groundPlaysUptoRow : OpenClaim := { program := "ytcknmholembjaaa", sum := "ee0b4015fcd7f68c96d90cfba62a5df4db66cb0e2cee9d95a926037b4fb880e2", func := "quitrent/quitrentlaw05.GroundPlays", spec := "groundPlays", inPlace := ["sync/atomic.AddUint64", "sync/atomic.LoadUint64"], apart := false, narrowed := true }
def GroundPlaysUptoSaid : Prop := groundPlaysUptoRow.holds Try.pinned (OpenSpec.upto groundPlaysSpec)

/-- 'quitrentlaw05.GroundLoads', WHERE WHAT IT READS IS OF BULK AT MOST 1048576: true; the input reads as it did. -/
def groundLoadsUptoRow : OpenClaim := { program := "ytcknmholembjaaa", sum := "ee0b4015fcd7f68c96d90cfba62a5df4db66cb0e2cee9d95a926037b4fb880e2", func := "quitrent/quitrentlaw05.GroundLoads", spec := "groundLoads", inPlace := ["sync/atomic.AddUint64", "sync/atomic.LoadUint64"], apart := false, narrowed := true }
def GroundLoadsUptoSaid : Prop := groundLoadsUptoRow.holds Try.pinned (OpenSpec.upto groundLoadsSpec)

/-- 'quitrentlaw05.GroundApart', WHERE WHAT IT READS IS OF BULK AT MOST 1048576: true; the input reads as it did. -/
def groundApartUptoRow : OpenClaim := { program := "ytcknmholembjaaa", sum := "ee0b4015fcd7f68c96d90cfba62a5df4db66cb0e2cee9d95a926037b4fb880e2", func := "quitrent/quitrentlaw05.GroundApart", spec := "groundApart", inPlace := ["sync/atomic.AddUint64", "sync/atomic.LoadUint64"], apart := false, narrowed := true }
def GroundApartUptoSaid : Prop := groundApartUptoRow.holds Try.pinned (OpenSpec.upto groundApartSpec)

/-- 'quitrentlaw05.GroundNobody', WHERE WHAT IT READS IS OF BULK AT MOST 1048576: true; the input reads as it did. -/
def groundNobodyUptoRow : OpenClaim := { program := "ytcknmholembjaaa", sum := "ee0b4015fcd7f68c96d90cfba62a5df4db66cb0e2cee9d95a926037b4fb880e2", func := "quitrent/quitrentlaw05.GroundNobody", spec := "groundNobody", inPlace := ["sync/atomic.AddUint64", "sync/atomic.LoadUint64"], apart := false, narrowed := true }
def GroundNobodyUptoSaid : Prop := groundNobodyUptoRow.holds Try.pinned (OpenSpec.upto groundNobodySpec)

end Rows
end Go.Proofs.Ytcknmholembjaaa
