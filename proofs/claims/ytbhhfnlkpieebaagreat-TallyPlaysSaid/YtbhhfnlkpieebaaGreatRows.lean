/-
  No cell of these rows narrows 'for every input' (looked for: loops, veiled, ifaces, maps, wideKeys, modest, calm, conditions, laid).
  DERIVED. THE GIVEN ROWS OF THIS SEAT. 10 by the template 'for every input the law returns true; each argument reads behind the call as it read before'; 0 by the template 'total and deterministic' (their statements: YtbhhfnlkpieebaaGreatTotals.lean).
  GIVEN WITH THE SEED: the statements are not yours to turn. If you find one false, say at which input.
  Laid BY PROGRAM, IN A SANDBOX (cutbox-rows.mjs): the forced cells as the released guide's own fill.sh prints them over the translation 1d4542bd4b487800… (all of the seat's roots in one cut). By AI agents, Wed Nov 11 2026. No macro, syntax, notation, axiom, sorry.
-/
import Derived.Test.YtbhhfnlkpieebaaGreatChecked
import GoSem.Claim
import GoSem.ClaimJoined
import GoSem.ClaimMapViews
import Derived.JoinedTies
import Derived.KernelRfl
namespace Go.Proofs.YtbhhfnlkpieebaaGreat
/- THE CELL 'sum', in the pinned program and in every row, IS THE sha256 OF THE DUMP (.gsa) THAT YtbhhfnlkpieebaaGreatProg.lean LOADS. Nothing in Lean hashes anything: it is a label: what it is worth is what the hold of that sum in a sandbox is worth. -/
noncomputable def Tryz.pinned : Pinned := { name := "ytbhhfnlkpieebaagreat", sum := "1d4542bd4b487800e69c6afdd3cbaf751aeb8873ada1b5afda7d9f09212b7d48", checked := Tryz.checked }
namespace Rows
def none {H : Type} : Left H := { results := [], args := [] }

/-- 'quitrentlaw15.LinkPlays': WHATEVER THE INPUT: true; the input reads as it did. -/
def linkPlaysSpec : ChangeSpec := { name := "linkPlays", fn := fun _ => fun
  | [d1, d2] => { results := [.lit (.bool true)], args := [d1, d2] }
  | _ => none }
def linkPlaysRow : OpenClaim := { program := "ytbhhfnlkpieebaagreat", sum := "1d4542bd4b487800e69c6afdd3cbaf751aeb8873ada1b5afda7d9f09212b7d48", func := "quitrent/quitrentlaw15.LinkPlays", spec := "linkPlays", inPlace := ["sync/atomic.AddUint64", "sync/atomic.LoadUint64"], unfollowed := true, recurses := true, apart := false }
def LinkPlaysSaid : Prop := linkPlaysRow.holds Tryz.pinned (OpenSpec.ofChange linkPlaysSpec)

/-- ITS FALSE NEIGHBOUR: 'it returns false'. Refute it at one input. -/
def linkPlaysWrong : ChangeSpec := { name := "linkPlays", fn := fun _ => fun
  | [d1, d2] => { results := [.lit (.bool false)], args := [d1, d2] }
  | _ => none }
def LinkPlaysWrongFalsely : Prop := linkPlaysRow.holds Tryz.pinned (OpenSpec.ofChange linkPlaysWrong)

/-- 'quitrentlaw16.TallyPlays': WHATEVER THE INPUT: true; the input reads as it did. -/
def tallyPlaysSpec : ChangeSpec := { name := "tallyPlays", fn := fun _ => fun
  | [d1, d2, d3] => { results := [.lit (.bool true)], args := [d1, d2, d3] }
  | _ => none }
def tallyPlaysRow : OpenClaim := { program := "ytbhhfnlkpieebaagreat", sum := "1d4542bd4b487800e69c6afdd3cbaf751aeb8873ada1b5afda7d9f09212b7d48", func := "quitrent/quitrentlaw16.TallyPlays", spec := "tallyPlays", inPlace := ["sync/atomic.AddUint64", "sync/atomic.LoadUint64"], unfollowed := true, recurses := true, apart := false }
def TallyPlaysSaid : Prop := tallyPlaysRow.holds Tryz.pinned (OpenSpec.ofChange tallyPlaysSpec)

/-- ITS FALSE NEIGHBOUR: 'it returns false'. Refute it at one input. -/
def tallyPlaysWrong : ChangeSpec := { name := "tallyPlays", fn := fun _ => fun
  | [d1, d2, d3] => { results := [.lit (.bool false)], args := [d1, d2, d3] }
  | _ => none }
def TallyPlaysWrongFalsely : Prop := tallyPlaysRow.holds Tryz.pinned (OpenSpec.ofChange tallyPlaysWrong)

/-- 'quitrentlaw16.TallyCounts': WHATEVER THE INPUT: true; the input reads as it did. -/
def tallyCountsSpec : ChangeSpec := { name := "tallyCounts", fn := fun _ => fun
  | [d1, d2, d3, d4] => { results := [.lit (.bool true)], args := [d1, d2, d3, d4] }
  | _ => none }
def tallyCountsRow : OpenClaim := { program := "ytbhhfnlkpieebaagreat", sum := "1d4542bd4b487800e69c6afdd3cbaf751aeb8873ada1b5afda7d9f09212b7d48", func := "quitrent/quitrentlaw16.TallyCounts", spec := "tallyCounts", inPlace := ["sync/atomic.AddUint64"], unfollowed := true, recurses := true, apart := false }
def TallyCountsSaid : Prop := tallyCountsRow.holds Tryz.pinned (OpenSpec.ofChange tallyCountsSpec)

/-- ITS FALSE NEIGHBOUR: 'it returns false'. Refute it at one input. -/
def tallyCountsWrong : ChangeSpec := { name := "tallyCounts", fn := fun _ => fun
  | [d1, d2, d3, d4] => { results := [.lit (.bool false)], args := [d1, d2, d3, d4] }
  | _ => none }
def TallyCountsWrongFalsely : Prop := tallyCountsRow.holds Tryz.pinned (OpenSpec.ofChange tallyCountsWrong)

/-- 'quitrentlaw16.TallyHolds': WHATEVER THE INPUT: true; the input reads as it did. -/
def tallyHoldsSpec : ChangeSpec := { name := "tallyHolds", fn := fun _ => fun
  | [d1, d2] => { results := [.lit (.bool true)], args := [d1, d2] }
  | _ => none }
def tallyHoldsRow : OpenClaim := { program := "ytbhhfnlkpieebaagreat", sum := "1d4542bd4b487800e69c6afdd3cbaf751aeb8873ada1b5afda7d9f09212b7d48", func := "quitrent/quitrentlaw16.TallyHolds", spec := "tallyHolds", inPlace := ["sync/atomic.AddUint64"], unfollowed := true, recurses := true, apart := false }
def TallyHoldsSaid : Prop := tallyHoldsRow.holds Tryz.pinned (OpenSpec.ofChange tallyHoldsSpec)

/-- ITS FALSE NEIGHBOUR: 'it returns false'. Refute it at one input. -/
def tallyHoldsWrong : ChangeSpec := { name := "tallyHolds", fn := fun _ => fun
  | [d1, d2] => { results := [.lit (.bool false)], args := [d1, d2] }
  | _ => none }
def TallyHoldsWrongFalsely : Prop := tallyHoldsRow.holds Tryz.pinned (OpenSpec.ofChange tallyHoldsWrong)

/-- 'quitrentlaw16.TallyNobody': WHATEVER THE INPUT: true; the input reads as it did. -/
def tallyNobodySpec : ChangeSpec := { name := "tallyNobody", fn := fun _ => fun
  | [d1, d2] => { results := [.lit (.bool true)], args := [d1, d2] }
  | _ => none }
def tallyNobodyRow : OpenClaim := { program := "ytbhhfnlkpieebaagreat", sum := "1d4542bd4b487800e69c6afdd3cbaf751aeb8873ada1b5afda7d9f09212b7d48", func := "quitrent/quitrentlaw16.TallyNobody", spec := "tallyNobody", inPlace := ["sync/atomic.AddUint64"], unfollowed := true, recurses := true, apart := false }
def TallyNobodySaid : Prop := tallyNobodyRow.holds Tryz.pinned (OpenSpec.ofChange tallyNobodySpec)

/-- ITS FALSE NEIGHBOUR: 'it returns false'. Refute it at one input. -/
def tallyNobodyWrong : ChangeSpec := { name := "tallyNobody", fn := fun _ => fun
  | [d1, d2] => { results := [.lit (.bool false)], args := [d1, d2] }
  | _ => none }
def TallyNobodyWrongFalsely : Prop := tallyNobodyRow.holds Tryz.pinned (OpenSpec.ofChange tallyNobodyWrong)

/-- 'quitrentlaw15.LinkCounts': WHATEVER THE INPUT: true; the input reads as it did. -/
def linkCountsSpec : ChangeSpec := { name := "linkCounts", fn := fun _ => fun
  | [d1, d2] => { results := [.lit (.bool true)], args := [d1, d2] }
  | _ => none }
def linkCountsRow : OpenClaim := { program := "ytbhhfnlkpieebaagreat", sum := "1d4542bd4b487800e69c6afdd3cbaf751aeb8873ada1b5afda7d9f09212b7d48", func := "quitrent/quitrentlaw15.LinkCounts", spec := "linkCounts", inPlace := ["sync/atomic.AddUint64"], unfollowed := true, recurses := true, apart := false }
def LinkCountsSaid : Prop := linkCountsRow.holds Tryz.pinned (OpenSpec.ofChange linkCountsSpec)

/-- ITS FALSE NEIGHBOUR: 'it returns false'. Refute it at one input. -/
def linkCountsWrong : ChangeSpec := { name := "linkCounts", fn := fun _ => fun
  | [d1, d2] => { results := [.lit (.bool false)], args := [d1, d2] }
  | _ => none }
def LinkCountsWrongFalsely : Prop := linkCountsRow.holds Tryz.pinned (OpenSpec.ofChange linkCountsWrong)

/-- 'quitrentlaw15.LinkNobody': WHATEVER THE INPUT: true; the input reads as it did. -/
def linkNobodySpec : ChangeSpec := { name := "linkNobody", fn := fun _ => fun
  | [d1, d2, d3] => { results := [.lit (.bool true)], args := [d1, d2, d3] }
  | _ => none }
def linkNobodyRow : OpenClaim := { program := "ytbhhfnlkpieebaagreat", sum := "1d4542bd4b487800e69c6afdd3cbaf751aeb8873ada1b5afda7d9f09212b7d48", func := "quitrent/quitrentlaw15.LinkNobody", spec := "linkNobody", inPlace := ["sync/atomic.AddUint64"], unfollowed := true, recurses := true, apart := false }
def LinkNobodySaid : Prop := linkNobodyRow.holds Tryz.pinned (OpenSpec.ofChange linkNobodySpec)

/-- ITS FALSE NEIGHBOUR: 'it returns false'. Refute it at one input. -/
def linkNobodyWrong : ChangeSpec := { name := "linkNobody", fn := fun _ => fun
  | [d1, d2, d3] => { results := [.lit (.bool false)], args := [d1, d2, d3] }
  | _ => none }
def LinkNobodyWrongFalsely : Prop := linkNobodyRow.holds Tryz.pinned (OpenSpec.ofChange linkNobodyWrong)

/-- 'quitrentlaw14.GraveEnds': WHATEVER THE INPUT: true; the input reads as it did. -/
def graveEndsSpec : ChangeSpec := { name := "graveEnds", fn := fun _ => fun
  | [d1, d2, d3, d4] => { results := [.lit (.bool true)], args := [d1, d2, d3, d4] }
  | _ => none }
def graveEndsRow : OpenClaim := { program := "ytbhhfnlkpieebaagreat", sum := "1d4542bd4b487800e69c6afdd3cbaf751aeb8873ada1b5afda7d9f09212b7d48", func := "quitrent/quitrentlaw14.GraveEnds", spec := "graveEnds", inPlace := ["sync/atomic.AddUint64"], unfollowed := true, recurses := true, apart := false }
def GraveEndsSaid : Prop := graveEndsRow.holds Tryz.pinned (OpenSpec.ofChange graveEndsSpec)

/-- ITS FALSE NEIGHBOUR: 'it returns false'. Refute it at one input. -/
def graveEndsWrong : ChangeSpec := { name := "graveEnds", fn := fun _ => fun
  | [d1, d2, d3, d4] => { results := [.lit (.bool false)], args := [d1, d2, d3, d4] }
  | _ => none }
def GraveEndsWrongFalsely : Prop := graveEndsRow.holds Tryz.pinned (OpenSpec.ofChange graveEndsWrong)

/-- 'quitrentlaw14.GraveNobody': WHATEVER THE INPUT: true; the input reads as it did. -/
def graveNobodySpec : ChangeSpec := { name := "graveNobody", fn := fun _ => fun
  | [d] => { results := [.lit (.bool true)], args := [d] }
  | _ => none }
def graveNobodyRow : OpenClaim := { program := "ytbhhfnlkpieebaagreat", sum := "1d4542bd4b487800e69c6afdd3cbaf751aeb8873ada1b5afda7d9f09212b7d48", func := "quitrent/quitrentlaw14.GraveNobody", spec := "graveNobody", inPlace := ["sync/atomic.AddUint64"], unfollowed := true, recurses := true, apart := false }
def GraveNobodySaid : Prop := graveNobodyRow.holds Tryz.pinned (OpenSpec.ofChange graveNobodySpec)

/-- ITS FALSE NEIGHBOUR: 'it returns false'. Refute it at one input. -/
def graveNobodyWrong : ChangeSpec := { name := "graveNobody", fn := fun _ => fun
  | [d] => { results := [.lit (.bool false)], args := [d] }
  | _ => none }
def GraveNobodyWrongFalsely : Prop := graveNobodyRow.holds Tryz.pinned (OpenSpec.ofChange graveNobodyWrong)

/-- 'quitrentlaw13.TintNobody': WHATEVER THE INPUT: true; the input reads as it did. -/
def tintNobodySpec : ChangeSpec := { name := "tintNobody", fn := fun _ => fun
  | [d1, d2] => { results := [.lit (.bool true)], args := [d1, d2] }
  | _ => none }
def tintNobodyRow : OpenClaim := { program := "ytbhhfnlkpieebaagreat", sum := "1d4542bd4b487800e69c6afdd3cbaf751aeb8873ada1b5afda7d9f09212b7d48", func := "quitrent/quitrentlaw13.TintNobody", spec := "tintNobody", inPlace := ["sync/atomic.AddUint64"], unfollowed := true, recurses := true, apart := false }
def TintNobodySaid : Prop := tintNobodyRow.holds Tryz.pinned (OpenSpec.ofChange tintNobodySpec)

/-- ITS FALSE NEIGHBOUR: 'it returns false'. Refute it at one input. -/
def tintNobodyWrong : ChangeSpec := { name := "tintNobody", fn := fun _ => fun
  | [d1, d2] => { results := [.lit (.bool false)], args := [d1, d2] }
  | _ => none }
def TintNobodyWrongFalsely : Prop := tintNobodyRow.holds Tryz.pinned (OpenSpec.ofChange tintNobodyWrong)

/- THE SECOND FORM. 'bulk': how many values and letters a reading holds, each counted each time it is reached (what is shared counts as often as it is met; a slice's spare places count too). A statement '..UptoSaid' is the law's where the arguments, and the package variables that the reading takes, are together of bulk at most 1048576: NARROWER than '..Said'. Prove '..Said' where nothing that the law and all that it calls make is longer than what came in: it says more and counts as full. Else prove '..UptoSaid'. A law counts once. -/
mutual
def uptoBulk {H : Type} : DataW H → Nat
  | .lit (.string bytes) => bytes.length + 1
  | .lit _ => 1
  | .nil => 1
  | .ptr d => uptoBulk d + 1
  | .slice elems spare => uptoBulkAll elems + uptoBulkAll spare + 1
  | .agg parts => uptoBulkAll parts + 1
  | .iface _ d => uptoBulk d + 1
  | .map entries => uptoBulkEntries entries + 1
  | .held _ => 1
def uptoBulkAll {H : Type} : List (DataW H) → Nat
  | [] => 0
  | d :: r => uptoBulk d + uptoBulkAll r
def uptoBulkEntries {H : Type} : List (Lit × DataW H) → Nat
  | [] => 0
  | x :: r => uptoBulkEntry x + uptoBulkEntries r
def uptoBulkEntry {H : Type} : Lit × DataW H → Nat
  | (.string bytes, d) => bytes.length + uptoBulk d + 1
  | (_, d) => uptoBulk d + 1
 end
def uptoSmall : (H : Type) → List (DataW H) → Bool := fun _ ds => decide (uptoBulkAll ds ≤ 1048576)
def OpenSpec.upto (s : _root_.Go.ChangeSpec) : _root_.Go.OpenSpec := { _root_.Go.OpenSpec.ofChange s with cond := some uptoSmall }

/-- 'quitrentlaw15.LinkPlays', WHERE WHAT IT READS IS OF BULK AT MOST 1048576: true; the input reads as it did. -/
def linkPlaysUptoRow : OpenClaim := { program := "ytbhhfnlkpieebaagreat", sum := "1d4542bd4b487800e69c6afdd3cbaf751aeb8873ada1b5afda7d9f09212b7d48", func := "quitrent/quitrentlaw15.LinkPlays", spec := "linkPlays", inPlace := ["sync/atomic.AddUint64", "sync/atomic.LoadUint64"], unfollowed := true, recurses := true, apart := false, narrowed := true }
def LinkPlaysUptoSaid : Prop := linkPlaysUptoRow.holds Tryz.pinned (OpenSpec.upto linkPlaysSpec)

/-- 'quitrentlaw16.TallyPlays', WHERE WHAT IT READS IS OF BULK AT MOST 1048576: true; the input reads as it did. -/
def tallyPlaysUptoRow : OpenClaim := { program := "ytbhhfnlkpieebaagreat", sum := "1d4542bd4b487800e69c6afdd3cbaf751aeb8873ada1b5afda7d9f09212b7d48", func := "quitrent/quitrentlaw16.TallyPlays", spec := "tallyPlays", inPlace := ["sync/atomic.AddUint64", "sync/atomic.LoadUint64"], unfollowed := true, recurses := true, apart := false, narrowed := true }
def TallyPlaysUptoSaid : Prop := tallyPlaysUptoRow.holds Tryz.pinned (OpenSpec.upto tallyPlaysSpec)

/-- 'quitrentlaw16.TallyCounts', WHERE WHAT IT READS IS OF BULK AT MOST 1048576: true; the input reads as it did. -/
def tallyCountsUptoRow : OpenClaim := { program := "ytbhhfnlkpieebaagreat", sum := "1d4542bd4b487800e69c6afdd3cbaf751aeb8873ada1b5afda7d9f09212b7d48", func := "quitrent/quitrentlaw16.TallyCounts", spec := "tallyCounts", inPlace := ["sync/atomic.AddUint64"], unfollowed := true, recurses := true, apart := false, narrowed := true }
def TallyCountsUptoSaid : Prop := tallyCountsUptoRow.holds Tryz.pinned (OpenSpec.upto tallyCountsSpec)

/-- 'quitrentlaw16.TallyHolds', WHERE WHAT IT READS IS OF BULK AT MOST 1048576: true; the input reads as it did. -/
def tallyHoldsUptoRow : OpenClaim := { program := "ytbhhfnlkpieebaagreat", sum := "1d4542bd4b487800e69c6afdd3cbaf751aeb8873ada1b5afda7d9f09212b7d48", func := "quitrent/quitrentlaw16.TallyHolds", spec := "tallyHolds", inPlace := ["sync/atomic.AddUint64"], unfollowed := true, recurses := true, apart := false, narrowed := true }
def TallyHoldsUptoSaid : Prop := tallyHoldsUptoRow.holds Tryz.pinned (OpenSpec.upto tallyHoldsSpec)

/-- 'quitrentlaw16.TallyNobody', WHERE WHAT IT READS IS OF BULK AT MOST 1048576: true; the input reads as it did. -/
def tallyNobodyUptoRow : OpenClaim := { program := "ytbhhfnlkpieebaagreat", sum := "1d4542bd4b487800e69c6afdd3cbaf751aeb8873ada1b5afda7d9f09212b7d48", func := "quitrent/quitrentlaw16.TallyNobody", spec := "tallyNobody", inPlace := ["sync/atomic.AddUint64"], unfollowed := true, recurses := true, apart := false, narrowed := true }
def TallyNobodyUptoSaid : Prop := tallyNobodyUptoRow.holds Tryz.pinned (OpenSpec.upto tallyNobodySpec)

/-- 'quitrentlaw15.LinkCounts', WHERE WHAT IT READS IS OF BULK AT MOST 1048576: true; the input reads as it did. -/
def linkCountsUptoRow : OpenClaim := { program := "ytbhhfnlkpieebaagreat", sum := "1d4542bd4b487800e69c6afdd3cbaf751aeb8873ada1b5afda7d9f09212b7d48", func := "quitrent/quitrentlaw15.LinkCounts", spec := "linkCounts", inPlace := ["sync/atomic.AddUint64"], unfollowed := true, recurses := true, apart := false, narrowed := true }
def LinkCountsUptoSaid : Prop := linkCountsUptoRow.holds Tryz.pinned (OpenSpec.upto linkCountsSpec)

/-- 'quitrentlaw15.LinkNobody', WHERE WHAT IT READS IS OF BULK AT MOST 1048576: true; the input reads as it did. -/
def linkNobodyUptoRow : OpenClaim := { program := "ytbhhfnlkpieebaagreat", sum := "1d4542bd4b487800e69c6afdd3cbaf751aeb8873ada1b5afda7d9f09212b7d48", func := "quitrent/quitrentlaw15.LinkNobody", spec := "linkNobody", inPlace := ["sync/atomic.AddUint64"], unfollowed := true, recurses := true, apart := false, narrowed := true }
def LinkNobodyUptoSaid : Prop := linkNobodyUptoRow.holds Tryz.pinned (OpenSpec.upto linkNobodySpec)

/-- 'quitrentlaw14.GraveEnds', WHERE WHAT IT READS IS OF BULK AT MOST 1048576: true; the input reads as it did. -/
def graveEndsUptoRow : OpenClaim := { program := "ytbhhfnlkpieebaagreat", sum := "1d4542bd4b487800e69c6afdd3cbaf751aeb8873ada1b5afda7d9f09212b7d48", func := "quitrent/quitrentlaw14.GraveEnds", spec := "graveEnds", inPlace := ["sync/atomic.AddUint64"], unfollowed := true, recurses := true, apart := false, narrowed := true }
def GraveEndsUptoSaid : Prop := graveEndsUptoRow.holds Tryz.pinned (OpenSpec.upto graveEndsSpec)

/-- 'quitrentlaw14.GraveNobody', WHERE WHAT IT READS IS OF BULK AT MOST 1048576: true; the input reads as it did. -/
def graveNobodyUptoRow : OpenClaim := { program := "ytbhhfnlkpieebaagreat", sum := "1d4542bd4b487800e69c6afdd3cbaf751aeb8873ada1b5afda7d9f09212b7d48", func := "quitrent/quitrentlaw14.GraveNobody", spec := "graveNobody", inPlace := ["sync/atomic.AddUint64"], unfollowed := true, recurses := true, apart := false, narrowed := true }
def GraveNobodyUptoSaid : Prop := graveNobodyUptoRow.holds Tryz.pinned (OpenSpec.upto graveNobodySpec)

/-- 'quitrentlaw13.TintNobody', WHERE WHAT IT READS IS OF BULK AT MOST 1048576: true; the input reads as it did. -/
def tintNobodyUptoRow : OpenClaim := { program := "ytbhhfnlkpieebaagreat", sum := "1d4542bd4b487800e69c6afdd3cbaf751aeb8873ada1b5afda7d9f09212b7d48", func := "quitrent/quitrentlaw13.TintNobody", spec := "tintNobody", inPlace := ["sync/atomic.AddUint64"], unfollowed := true, recurses := true, apart := false, narrowed := true }
def TintNobodyUptoSaid : Prop := tintNobodyUptoRow.holds Tryz.pinned (OpenSpec.upto tintNobodySpec)

end Rows
end Go.Proofs.YtbhhfnlkpieebaaGreat
