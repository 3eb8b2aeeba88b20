/-
  No cell of these rows narrows 'for every input' (looked for: loops, veiled, ifaces, maps, wideKeys, modest, calm, conditions, laid).
  DERIVED. THE GIVEN ROWS OF THIS SEAT. 6 by the template 'for every input the law returns true; each argument reads behind the call as it read before'; 0 by the template 'total and deterministic' (their statements: YtljdbaddockfcaaGreatTotals.lean).
  GIVEN WITH THE SEED: the statements are not yours to turn. If you find one false, say at which input.
  Laid BY PROGRAM, IN A SANDBOX (cutbox-rows.mjs): the forced cells as the released guide's own fill.sh prints them over the translation ce7a2ffe57b8f7dc… (all of the seat's roots in one cut). By AI agents, Wed Nov 11 2026. No macro, syntax, notation, axiom, sorry.
-/
import Derived.Test.YtljdbaddockfcaaGreatChecked
import GoSem.Claim
import GoSem.ClaimJoined
import GoSem.ClaimMapViews
import Derived.JoinedTies
import Derived.KernelRfl
namespace Go.Proofs.YtljdbaddockfcaaGreat
/- THE CELL 'sum', in the pinned program and in every row, IS THE sha256 OF THE DUMP (.gsa) THAT YtljdbaddockfcaaGreatProg.lean LOADS. Nothing in Lean hashes anything: it is a label: what it is worth is what the hold of that sum in a sandbox is worth. -/
noncomputable def Tryz.pinned : Pinned := { name := "ytljdbaddockfcaagreat", sum := "ce7a2ffe57b8f7dca9601b291965271bc7fc255d0ed525634d648c91cfb0183f", checked := Tryz.checked }
namespace Rows
def none {H : Type} : Left H := { results := [], args := [] }

/-- 'quitrentlaw14.GraveEnds': WHATEVER THE INPUT: true; the input reads as it did. -/
def graveEndsSpec : ChangeSpec := { name := "graveEnds", fn := fun _ => fun
  | [d1, d2, d3, d4] => { results := [.lit (.bool true)], args := [d1, d2, d3, d4] }
  | _ => none }
def graveEndsRow : OpenClaim := { program := "ytljdbaddockfcaagreat", sum := "ce7a2ffe57b8f7dca9601b291965271bc7fc255d0ed525634d648c91cfb0183f", func := "quitrent/quitrentlaw14.GraveEnds", spec := "graveEnds", inPlace := ["sync/atomic.AddUint64"], unfollowed := true, recurses := true, apart := false }
def GraveEndsSaid : Prop := graveEndsRow.holds Tryz.pinned (OpenSpec.ofChange graveEndsSpec)

/-- ITS FALSE NEIGHBOUR: 'it returns false'. Refute it at one input. -/
def graveEndsWrong : ChangeSpec := { name := "graveEnds", fn := fun _ => fun
  | [d1, d2, d3, d4] => { results := [.lit (.bool false)], args := [d1, d2, d3, d4] }
  | _ => none }
def GraveEndsWrongFalsely : Prop := graveEndsRow.holds Tryz.pinned (OpenSpec.ofChange graveEndsWrong)

/-- 'quitrentlaw14.GraveNobody': WHATEVER THE INPUT: true; the input reads as it did. -/
def graveNobodySpec : ChangeSpec := { name := "graveNobody", fn := fun _ => fun
  | [d] => { results := [.lit (.bool true)], args := [d] }
  | _ => none }
def graveNobodyRow : OpenClaim := { program := "ytljdbaddockfcaagreat", sum := "ce7a2ffe57b8f7dca9601b291965271bc7fc255d0ed525634d648c91cfb0183f", func := "quitrent/quitrentlaw14.GraveNobody", spec := "graveNobody", inPlace := ["sync/atomic.AddUint64"], unfollowed := true, recurses := true, apart := false }
def GraveNobodySaid : Prop := graveNobodyRow.holds Tryz.pinned (OpenSpec.ofChange graveNobodySpec)

/-- ITS FALSE NEIGHBOUR: 'it returns false'. Refute it at one input. -/
def graveNobodyWrong : ChangeSpec := { name := "graveNobody", fn := fun _ => fun
  | [d] => { results := [.lit (.bool false)], args := [d] }
  | _ => none }
def GraveNobodyWrongFalsely : Prop := graveNobodyRow.holds Tryz.pinned (OpenSpec.ofChange graveNobodyWrong)

/-- 'quitrentlaw15.LinkPlays': WHATEVER THE INPUT: true; the input reads as it did. -/
def linkPlaysSpec : ChangeSpec := { name := "linkPlays", fn := fun _ => fun
  | [d1, d2] => { results := [.lit (.bool true)], args := [d1, d2] }
  | _ => none }
def linkPlaysRow : OpenClaim := { program := "ytljdbaddockfcaagreat", sum := "ce7a2ffe57b8f7dca9601b291965271bc7fc255d0ed525634d648c91cfb0183f", func := "quitrent/quitrentlaw15.LinkPlays", spec := "linkPlays", inPlace := ["sync/atomic.AddUint64", "sync/atomic.LoadUint64"], unfollowed := true, recurses := true, apart := false }
def LinkPlaysSaid : Prop := linkPlaysRow.holds Tryz.pinned (OpenSpec.ofChange linkPlaysSpec)

/-- ITS FALSE NEIGHBOUR: 'it returns false'. Refute it at one input. -/
def linkPlaysWrong : ChangeSpec := { name := "linkPlays", fn := fun _ => fun
  | [d1, d2] => { results := [.lit (.bool false)], args := [d1, d2] }
  | _ => none }
def LinkPlaysWrongFalsely : Prop := linkPlaysRow.holds Tryz.pinned (OpenSpec.ofChange linkPlaysWrong)

/-- 'quitrentlaw15.LinkCounts': WHATEVER THE INPUT: true; the input reads as it did. -/
def linkCountsSpec : ChangeSpec := { name := "linkCounts", fn := fun _ => fun
  | [d1, d2] => { results := [.lit (.bool true)], args := [d1, d2] }
  | _ => none }
def linkCountsRow : OpenClaim := { program := "ytljdbaddockfcaagreat", sum := "ce7a2ffe57b8f7dca9601b291965271bc7fc255d0ed525634d648c91cfb0183f", func := "quitrent/quitrentlaw15.LinkCounts", spec := "linkCounts", inPlace := ["sync/atomic.AddUint64"], unfollowed := true, recurses := true, apart := false }
def LinkCountsSaid : Prop := linkCountsRow.holds Tryz.pinned (OpenSpec.ofChange linkCountsSpec)

/-- ITS FALSE NEIGHBOUR: 'it returns false'. Refute it at one input. -/
def linkCountsWrong : ChangeSpec := { name := "linkCounts", fn := fun _ => fun
  | [d1, d2] => { results := [.lit (.bool false)], args := [d1, d2] }
  | _ => none }
def LinkCountsWrongFalsely : Prop := linkCountsRow.holds Tryz.pinned (OpenSpec.ofChange linkCountsWrong)

/-- 'quitrentlaw15.LinkNobody': WHATEVER THE INPUT: true; the input reads as it did. -/
def linkNobodySpec : ChangeSpec := { name := "linkNobody", fn := fun _ => fun
  | [d1, d2, d3] => { results := [.lit (.bool true)], args := [d1, d2, d3] }
  | _ => none }
def linkNobodyRow : OpenClaim := { program := "ytljdbaddockfcaagreat", sum := "ce7a2ffe57b8f7dca9601b291965271bc7fc255d0ed525634d648c91cfb0183f", func := "quitrent/quitrentlaw15.LinkNobody", spec := "linkNobody", inPlace := ["sync/atomic.AddUint64"], unfollowed := true, recurses := true, apart := false }
def LinkNobodySaid : Prop := linkNobodyRow.holds Tryz.pinned (OpenSpec.ofChange linkNobodySpec)

/-- ITS FALSE NEIGHBOUR: 'it returns false'. Refute it at one input. -/
def linkNobodyWrong : ChangeSpec := { name := "linkNobody", fn := fun _ => fun
  | [d1, d2, d3] => { results := [.lit (.bool false)], args := [d1, d2, d3] }
  | _ => none }
def LinkNobodyWrongFalsely : Prop := linkNobodyRow.holds Tryz.pinned (OpenSpec.ofChange linkNobodyWrong)

/-- 'quitrentlaw13.TintNobody': WHATEVER THE INPUT: true; the input reads as it did. -/
def tintNobodySpec : ChangeSpec := { name := "tintNobody", fn := fun _ => fun
  | [d1, d2] => { results := [.lit (.bool true)], args := [d1, d2] }
  | _ => none }
def tintNobodyRow : OpenClaim := { program := "ytljdbaddockfcaagreat", sum := "ce7a2ffe57b8f7dca9601b291965271bc7fc255d0ed525634d648c91cfb0183f", func := "quitrent/quitrentlaw13.TintNobody", spec := "tintNobody", inPlace := ["sync/atomic.AddUint64"], unfollowed := true, recurses := true, apart := false }
def TintNobodySaid : Prop := tintNobodyRow.holds Tryz.pinned (OpenSpec.ofChange tintNobodySpec)

/-- ITS FALSE NEIGHBOUR: 'it returns false'. Refute it at one input. -/
def tintNobodyWrong : ChangeSpec := { name := "tintNobody", fn := fun _ => fun
  | [d1, d2] => { results := [.lit (.bool false)], args := [d1, d2] }
  | _ => none }
def TintNobodyWrongFalsely : Prop := tintNobodyRow.holds Tryz.pinned (OpenSpec.ofChange tintNobodyWrong)

/- THE SECOND FORM. 'bulk': how many values and letters a reading holds, each counted each time it is reached (what is shared counts as often as it is met; a slice's spare places count too). A statement '..UptoSaid' is the law's where the arguments, and the package variables that the reading takes, are together of bulk at most 1048576: NARROWER than '..Said'. Prove '..Said' where nothing that the law and all that it calls make is longer than what came in: it says more and counts as full. Else prove '..UptoSaid'. A law counts once. -/
mutual
def uptoBulk {H : Type} : DataW H → Nat
  | .lit (.string bytes) => bytes.length + 1
  | .lit _ => 1
  | .nil => 1
  | .ptr d => uptoBulk d + 1
  | .slice elems spare => uptoBulkAll elems + uptoBulkAll spare + 1
  | .agg parts => uptoBulkAll parts + 1
  | .iface _ d => uptoBulk d + 1
  | .map entries => uptoBulkEntries entries + 1
  | .held _ => 1
def uptoBulkAll {H : Type} : List (DataW H) → Nat
  | [] => 0
  | d :: r => uptoBulk d + uptoBulkAll r
def uptoBulkEntries {H : Type} : List (Lit × DataW H) → Nat
  | [] => 0
  | x :: r => uptoBulkEntry x + uptoBulkEntries r
def uptoBulkEntry {H : Type} : Lit × DataW H → Nat
  | (.string bytes, d) => bytes.length + uptoBulk d + 1
  | (_, d) => uptoBulk d + 1
 end
def uptoSmall : (H : Type) → List (DataW H) → Bool := fun _ ds => decide (uptoBulkAll ds ≤ 1048576)
def OpenSpec.upto (s : _root_.Go.ChangeSpec) : _root_.Go.OpenSpec := { _root_.Go.OpenSpec.ofChange s with cond := some uptoSmall }

/-- 'quitrentlaw14.GraveEnds', WHERE WHAT IT READS IS OF BULK AT MOST 1048576: true; the input reads as it did. -/
def graveEndsUptoRow : OpenClaim := { program := "ytljdbaddockfcaagreat", sum := "ce7a2ffe57b8f7dca9601b291965271bc7fc255d0ed525634d648c91cfb0183f", func := "quitrent/quitrentlaw14.GraveEnds", spec := "graveEnds", inPlace := ["sync/atomic.AddUint64"], unfollowed := true, recurses := true, apart := false, narrowed := true }
def GraveEndsUptoSaid : Prop := graveEndsUptoRow.holds Tryz.pinned (OpenSpec.upto graveEndsSpec)

/-- 'quitrentlaw14.GraveNobody', WHERE WHAT IT READS IS OF BULK AT MOST 1048576: true; the input reads as it did. -/
def graveNobodyUptoRow : OpenClaim := { program := "ytljdbaddockfcaagreat", sum := "ce7a2ffe57b8f7dca9601b291965271bc7fc255d0ed525634d648c91cfb0183f", func := "quitrent/quitrentlaw14.GraveNobody", spec := "graveNobody", inPlace := ["sync/atomic.AddUint64"], unfollowed := true, recurses := true, apart := false, narrowed := true }
def GraveNobodyUptoSaid : Prop := graveNobodyUptoRow.holds Tryz.pinned (OpenSpec.upto graveNobodySpec)

/-- 'quitrentlaw15.LinkPlays', WHERE WHAT IT READS IS OF BULK AT MOST 1048576: true; the input reads as it did. -/
def linkPlaysUptoRow : OpenClaim := { program := "ytljdbaddockfcaagreat", sum := "ce7a2ffe57b8f7dca9601b291965271bc7fc255d0ed525634d648c91cfb0183f", func := "quitrent/quitrentlaw15.LinkPlays", spec := "linkPlays", inPlace := ["sync/atomic.AddUint64", "sync/atomic.LoadUint64"], unfollowed := true, recurses := true, apart := false, narrowed := true }
def LinkPlaysUptoSaid : Prop := linkPlaysUptoRow.holds Tryz.pinned (OpenSpec.upto linkPlaysSpec)

/-- 'quitrentlaw15.LinkCounts', WHERE WHAT IT READS IS OF BULK AT MOST 1048576: true; the input reads as it did. -/
def linkCountsUptoRow : OpenClaim := { program := "ytljdbaddockfcaagreat", sum := "ce7a2ffe57b8f7dca9601b291965271bc7fc255d0ed525634d648c91cfb0183f", func := "quitrent/quitrentlaw15.LinkCounts", spec := "linkCounts", inPlace := ["sync/atomic.AddUint64"], unfollowed := true, recurses := true, apart := false, narrowed := true }
def LinkCountsUptoSaid : Prop := linkCountsUptoRow.holds Tryz.pinned (OpenSpec.upto linkCountsSpec)

/-- 'quitrentlaw15.LinkNobody', WHERE WHAT IT READS IS OF BULK AT MOST 1048576: true; the input reads as it did. -/
def linkNobodyUptoRow : OpenClaim := { program := "ytljdbaddockfcaagreat", sum := "ce7a2ffe57b8f7dca9601b291965271bc7fc255d0ed525634d648c91cfb0183f", func := "quitrent/quitrentlaw15.LinkNobody", spec := "linkNobody", inPlace := ["sync/atomic.AddUint64"], unfollowed := true, recurses := true, apart := false, narrowed := true }
def LinkNobodyUptoSaid : Prop := linkNobodyUptoRow.holds Tryz.pinned (OpenSpec.upto linkNobodySpec)

/-- 'quitrentlaw13.TintNobody', WHERE WHAT IT READS IS OF BULK AT MOST 1048576: true; the input reads as it did. -/
def tintNobodyUptoRow : OpenClaim := { program := "ytljdbaddockfcaagreat", sum := "ce7a2ffe57b8f7dca9601b291965271bc7fc255d0ed525634d648c91cfb0183f", func := "quitrent/quitrentlaw13.TintNobody", spec := "tintNobody", inPlace := ["sync/atomic.AddUint64"], unfollowed := true, recurses := true, apart := false, narrowed := true }
def TintNobodyUptoSaid : Prop := tintNobodyUptoRow.holds Tryz.pinned (OpenSpec.upto tintNobodySpec)

end Rows
end Go.Proofs.YtljdbaddockfcaaGreat
