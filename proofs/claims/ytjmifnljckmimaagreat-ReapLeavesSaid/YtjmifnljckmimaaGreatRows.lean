/-
  No cell of these rows narrows 'for every input' (looked for: loops, veiled, ifaces, maps, wideKeys, modest, calm, conditions, laid).
  DERIVED. THE GIVEN ROWS OF THIS SEAT. 4 by the template 'for every input the law returns true; each argument reads behind the call as it read before'; 0 by the template 'total and deterministic' (their statements: YtjmifnljckmimaaGreatTotals.lean).
  GIVEN WITH THE SEED: the statements are not yours to turn. If you find one false, say at which input.
  Laid BY PROGRAM, IN A SANDBOX (cutbox-rows.mjs): the forced cells as the released guide's own fill.sh prints them over the translation cd51156730f8a5b3… (all of the seat's roots in one cut). By AI agents, Wed Nov 11 2026. No macro, syntax, notation, axiom, sorry.
-/
import Derived.Test.YtjmifnljckmimaaGreatChecked
import GoSem.Claim
import GoSem.ClaimJoined
import GoSem.ClaimMapViews
import Derived.JoinedTies
import Derived.KernelRfl
namespace Go.Proofs.YtjmifnljckmimaaGreat
/- THE CELL 'sum', in the pinned program and in every row, IS THE sha256 OF THE DUMP (.gsa) THAT YtjmifnljckmimaaGreatProg.lean LOADS. Nothing in Lean hashes anything: it is a label: what it is worth is what the hold of that sum in a sandbox is worth. -/
noncomputable def Tryz.pinned : Pinned := { name := "ytjmifnljckmimaagreat", sum := "cd51156730f8a5b3343521d6a50173a274a597cf79b9a14664ddbd85f95838d1", checked := Tryz.checked }
namespace Rows
def none {H : Type} : Left H := { results := [], args := [] }

/-- 'quitrentlaw18.ReapPlays': WHATEVER THE INPUT: true; the input reads as it did. -/
def reapPlaysSpec : ChangeSpec := { name := "reapPlays", fn := fun _ => fun
  | [d1, d2, d3] => { results := [.lit (.bool true)], args := [d1, d2, d3] }
  | _ => none }
def reapPlaysRow : OpenClaim := { program := "ytjmifnljckmimaagreat", sum := "cd51156730f8a5b3343521d6a50173a274a597cf79b9a14664ddbd85f95838d1", func := "quitrent/quitrentlaw18.ReapPlays", spec := "reapPlays", inPlace := ["sync/atomic.AddUint64", "sync/atomic.LoadUint64"], unfollowed := true, recurses := true, apart := false }
def ReapPlaysSaid : Prop := reapPlaysRow.holds Tryz.pinned (OpenSpec.ofChange reapPlaysSpec)

/-- ITS FALSE NEIGHBOUR: 'it returns false'. Refute it at one input. -/
def reapPlaysWrong : ChangeSpec := { name := "reapPlays", fn := fun _ => fun
  | [d1, d2, d3] => { results := [.lit (.bool false)], args := [d1, d2, d3] }
  | _ => none }
def ReapPlaysWrongFalsely : Prop := reapPlaysRow.holds Tryz.pinned (OpenSpec.ofChange reapPlaysWrong)

/-- 'quitrentlaw18.ReapLeaves': WHATEVER THE INPUT: true; the input reads as it did. -/
def reapLeavesSpec : ChangeSpec := { name := "reapLeaves", fn := fun _ => fun
  | [d1, d2, d3, d4] => { results := [.lit (.bool true)], args := [d1, d2, d3, d4] }
  | _ => none }
def reapLeavesRow : OpenClaim := { program := "ytjmifnljckmimaagreat", sum := "cd51156730f8a5b3343521d6a50173a274a597cf79b9a14664ddbd85f95838d1", func := "quitrent/quitrentlaw18.ReapLeaves", spec := "reapLeaves", inPlace := ["sync/atomic.AddUint64"], unfollowed := true, recurses := true, apart := false }
def ReapLeavesSaid : Prop := reapLeavesRow.holds Tryz.pinned (OpenSpec.ofChange reapLeavesSpec)

/-- ITS FALSE NEIGHBOUR: 'it returns false'. Refute it at one input. -/
def reapLeavesWrong : ChangeSpec := { name := "reapLeaves", fn := fun _ => fun
  | [d1, d2, d3, d4] => { results := [.lit (.bool false)], args := [d1, d2, d3, d4] }
  | _ => none }
def ReapLeavesWrongFalsely : Prop := reapLeavesRow.holds Tryz.pinned (OpenSpec.ofChange reapLeavesWrong)

/-- 'quitrentlaw18.ReapOnce': WHATEVER THE INPUT: true; the input reads as it did. -/
def reapOnceSpec : ChangeSpec := { name := "reapOnce", fn := fun _ => fun
  | [d1, d2, d3] => { results := [.lit (.bool true)], args := [d1, d2, d3] }
  | _ => none }
def reapOnceRow : OpenClaim := { program := "ytjmifnljckmimaagreat", sum := "cd51156730f8a5b3343521d6a50173a274a597cf79b9a14664ddbd85f95838d1", func := "quitrent/quitrentlaw18.ReapOnce", spec := "reapOnce", inPlace := ["sync/atomic.AddUint64"], unfollowed := true, recurses := true, apart := false }
def ReapOnceSaid : Prop := reapOnceRow.holds Tryz.pinned (OpenSpec.ofChange reapOnceSpec)

/-- ITS FALSE NEIGHBOUR: 'it returns false'. Refute it at one input. -/
def reapOnceWrong : ChangeSpec := { name := "reapOnce", fn := fun _ => fun
  | [d1, d2, d3] => { results := [.lit (.bool false)], args := [d1, d2, d3] }
  | _ => none }
def ReapOnceWrongFalsely : Prop := reapOnceRow.holds Tryz.pinned (OpenSpec.ofChange reapOnceWrong)

/-- 'quitrentlaw18.ReapNobody': WHATEVER THE INPUT: true; the input reads as it did. -/
def reapNobodySpec : ChangeSpec := { name := "reapNobody", fn := fun _ => fun
  | [d1, d2] => { results := [.lit (.bool true)], args := [d1, d2] }
  | _ => none }
def reapNobodyRow : OpenClaim := { program := "ytjmifnljckmimaagreat", sum := "cd51156730f8a5b3343521d6a50173a274a597cf79b9a14664ddbd85f95838d1", func := "quitrent/quitrentlaw18.ReapNobody", spec := "reapNobody", inPlace := ["sync/atomic.AddUint64"], unfollowed := true, recurses := true, apart := false }
def ReapNobodySaid : Prop := reapNobodyRow.holds Tryz.pinned (OpenSpec.ofChange reapNobodySpec)

/-- ITS FALSE NEIGHBOUR: 'it returns false'. Refute it at one input. -/
def reapNobodyWrong : ChangeSpec := { name := "reapNobody", fn := fun _ => fun
  | [d1, d2] => { results := [.lit (.bool false)], args := [d1, d2] }
  | _ => none }
def ReapNobodyWrongFalsely : Prop := reapNobodyRow.holds Tryz.pinned (OpenSpec.ofChange reapNobodyWrong)

/- THE SECOND FORM. 'bulk': how many values and letters a reading holds, each counted each time it is reached (what is shared counts as often as it is met; a slice's spare places count too). A statement '..UptoSaid' is the law's where the arguments, and the package variables that the reading takes, are together of bulk at most 1048576: NARROWER than '..Said'. Prove '..Said' where nothing that the law and all that it calls make is longer than what came in: it says more and counts as full. Else prove '..UptoSaid'. A law counts once. -/
mutual
def uptoBulk {H : Type} : DataW H → Nat
  | .lit (.string bytes) => bytes.length + 1
  | .lit _ => 1
  | .nil => 1
  | .ptr d => uptoBulk d + 1
  | .slice elems spare => uptoBulkAll elems + uptoBulkAll spare + 1
  | .agg parts => uptoBulkAll parts + 1
  | .iface _ d => uptoBulk d + 1
  | .map entries => uptoBulkEntries entries + 1
  | .held _ => 1
def uptoBulkAll {H : Type} : List (DataW H) → Nat
  | [] => 0
  | d :: r => uptoBulk d + uptoBulkAll r
def uptoBulkEntries {H : Type} : List (Lit × DataW H) → Nat
  | [] => 0
  | x :: r => uptoBulkEntry x + uptoBulkEntries r
def uptoBulkEntry {H : Type} : Lit × DataW H → Nat
  | (.string bytes, d) => bytes.length + uptoBulk d + 1
  | (_, d) => uptoBulk d + 1
 end
def uptoSmall : (H : Type) → List (DataW H) → Bool := fun _ ds => decide (uptoBulkAll ds ≤ 1048576)
def OpenSpec.upto (s : _root_.Go.ChangeSpec) : _root_.Go.OpenSpec := { _root_.Go.OpenSpec.ofChange s with cond := some uptoSmall }

/-- 'quitrentlaw18.ReapPlays', WHERE WHAT IT READS IS OF BULK AT MOST 1048576: true; the input reads as it did. -/
def reapPlaysUptoRow : OpenClaim := { program := "ytjmifnljckmimaagreat", sum := "cd51156730f8a5b3343521d6a50173a274a597cf79b9a14664ddbd85f95838d1", func := "quitrent/quitrentlaw18.ReapPlays", spec := "reapPlays", inPlace := ["sync/atomic.AddUint64", "sync/atomic.LoadUint64"], unfollowed := true, recurses := true, apart := false, narrowed := true }
def ReapPlaysUptoSaid : Prop := reapPlaysUptoRow.holds Tryz.pinned (OpenSpec.upto reapPlaysSpec)

/-- 'quitrentlaw18.ReapLeaves', WHERE WHAT IT READS IS OF BULK AT MOST 1048576: true; the input reads as it did. -/
def reapLeavesUptoRow : OpenClaim := { program := "ytjmifnljckmimaagreat", sum := "cd51156730f8a5b3343521d6a50173a274a597cf79b9a14664ddbd85f95838d1", func := "quitrent/quitrentlaw18.ReapLeaves", spec := "reapLeaves", inPlace := ["sync/atomic.AddUint64"], unfollowed := true, recurses := true, apart := false, narrowed := true }
def ReapLeavesUptoSaid : Prop := reapLeavesUptoRow.holds Tryz.pinned (OpenSpec.upto reapLeavesSpec)

/-- 'quitrentlaw18.ReapOnce', WHERE WHAT IT READS IS OF BULK AT MOST 1048576: true; the input reads as it did. -/
def reapOnceUptoRow : OpenClaim := { program := "ytjmifnljckmimaagreat", sum := "cd51156730f8a5b3343521d6a50173a274a597cf79b9a14664ddbd85f95838d1", func := "quitrent/quitrentlaw18.ReapOnce", spec := "reapOnce", inPlace := ["sync/atomic.AddUint64"], unfollowed := true, recurses := true, apart := false, narrowed := true }
def ReapOnceUptoSaid : Prop := reapOnceUptoRow.holds Tryz.pinned (OpenSpec.upto reapOnceSpec)

/-- 'quitrentlaw18.ReapNobody', WHERE WHAT IT READS IS OF BULK AT MOST 1048576: true; the input reads as it did. -/
def reapNobodyUptoRow : OpenClaim := { program := "ytjmifnljckmimaagreat", sum := "cd51156730f8a5b3343521d6a50173a274a597cf79b9a14664ddbd85f95838d1", func := "quitrent/quitrentlaw18.ReapNobody", spec := "reapNobody", inPlace := ["sync/atomic.AddUint64"], unfollowed := true, recurses := true, apart := false, narrowed := true }
def ReapNobodyUptoSaid : Prop := reapNobodyUptoRow.holds Tryz.pinned (OpenSpec.upto reapNobodySpec)

end Rows
end Go.Proofs.YtjmifnljckmimaaGreat
