/-
  No cell of these rows narrows 'for every input' (looked for: loops, veiled, ifaces, maps, wideKeys, modest, calm, conditions, laid).
  DERIVED. THE GIVEN ROWS OF THIS SEAT. 6 by the template 'for every input the law returns true; each argument reads behind the call as it read before'; 0 by the template 'total and deterministic' (their statements: YtgmbamehmecnlaaTotals.lean).
  GIVEN WITH THE SEED: the statements are not yours to turn. If you find one false, say at which input.
  Laid BY PROGRAM, IN A SANDBOX (cutbox-rows.mjs): the forced cells as the released guide's own fill.sh prints them over the translation 2f0d1ce7b3c7750f… (all of the seat's roots in one cut). By AI agents, Wed Nov 11 2026. No macro, syntax, notation, axiom, sorry.
-/
import Derived.Test.YtgmbamehmecnlaaChecked
import GoSem.Claim
import GoSem.ClaimJoined
import GoSem.ClaimMapViews
import Derived.JoinedTies
import Derived.KernelRfl
namespace Go.Proofs.Ytgmbamehmecnlaa
/- THE CELL 'sum', in the pinned program and in every row, IS THE sha256 OF THE DUMP (.gsa) THAT YtgmbamehmecnlaaProg.lean LOADS. Nothing in Lean hashes anything: it is a label: what it is worth is what the hold of that sum in a sandbox is worth. -/
noncomputable def Try.pinned : Pinned := { name := "ytgmbamehmecnlaa", sum := "2f0d1ce7b3c7750fabe5f60e591f0b6eeeb902e33800c6ece2917873123960a7", checked := Try.checked }
namespace Rows
def none {H : Type} : Left H := { results := [], args := [] }

/-- 'quitrentlaw12.CountAlone': WHATEVER THE INPUT: true; the input reads as it did. -/
def countAloneSpec : ChangeSpec := { name := "countAlone", fn := fun _ => fun
  | [d1, d2, d3, d4] => { results := [.lit (.bool true)], args := [d1, d2, d3, d4] }
  | _ => none }
def countAloneRow : OpenClaim := { program := "ytgmbamehmecnlaa", sum := "2f0d1ce7b3c7750fabe5f60e591f0b6eeeb902e33800c6ece2917873123960a7", func := "quitrent/quitrentlaw12.CountAlone", spec := "countAlone", inPlace := ["sync/atomic.AddUint64"], unfollowed := true, recurses := true, apart := false }
def CountAloneSaid : Prop := countAloneRow.holds Try.pinned (OpenSpec.ofChange countAloneSpec)

/-- ITS FALSE NEIGHBOUR: 'it returns false'. Refute it at one input. -/
def countAloneWrong : ChangeSpec := { name := "countAlone", fn := fun _ => fun
  | [d1, d2, d3, d4] => { results := [.lit (.bool false)], args := [d1, d2, d3, d4] }
  | _ => none }
def CountAloneWrongFalsely : Prop := countAloneRow.holds Try.pinned (OpenSpec.ofChange countAloneWrong)

/-- 'quitrentlaw12.CountNobody': WHATEVER THE INPUT: true; the input reads as it did. -/
def countNobodySpec : ChangeSpec := { name := "countNobody", fn := fun _ => fun
  | [d] => { results := [.lit (.bool true)], args := [d] }
  | _ => none }
def countNobodyRow : OpenClaim := { program := "ytgmbamehmecnlaa", sum := "2f0d1ce7b3c7750fabe5f60e591f0b6eeeb902e33800c6ece2917873123960a7", func := "quitrent/quitrentlaw12.CountNobody", spec := "countNobody", inPlace := ["sync/atomic.AddUint64"], unfollowed := true, recurses := true, apart := false }
def CountNobodySaid : Prop := countNobodyRow.holds Try.pinned (OpenSpec.ofChange countNobodySpec)

/-- ITS FALSE NEIGHBOUR: 'it returns false'. Refute it at one input. -/
def countNobodyWrong : ChangeSpec := { name := "countNobody", fn := fun _ => fun
  | [d] => { results := [.lit (.bool false)], args := [d] }
  | _ => none }
def CountNobodyWrongFalsely : Prop := countNobodyRow.holds Try.pinned (OpenSpec.ofChange countNobodyWrong)

/-- 'quitrenttop.WholeRows': WHATEVER THE INPUT: true; the input reads as it did. -/
def wholeRowsSpec : ChangeSpec := { name := "wholeRows", fn := fun _ => fun
  | [d1, d2, d3] => { results := [.lit (.bool true)], args := [d1, d2, d3] }
  | _ => none }
def wholeRowsRow : OpenClaim := { program := "ytgmbamehmecnlaa", sum := "2f0d1ce7b3c7750fabe5f60e591f0b6eeeb902e33800c6ece2917873123960a7", func := "quitrent/quitrenttop.WholeRows", spec := "wholeRows", inPlace := ["sync/atomic.AddUint64"], unfollowed := true, recurses := true, apart := false }
def WholeRowsSaid : Prop := wholeRowsRow.holds Try.pinned (OpenSpec.ofChange wholeRowsSpec)

/-- ITS FALSE NEIGHBOUR: 'it returns false'. Refute it at one input. -/
def wholeRowsWrong : ChangeSpec := { name := "wholeRows", fn := fun _ => fun
  | [d1, d2, d3] => { results := [.lit (.bool false)], args := [d1, d2, d3] }
  | _ => none }
def WholeRowsWrongFalsely : Prop := wholeRowsRow.holds Try.pinned (OpenSpec.ofChange wholeRowsWrong)

/-- 'quitrentlaw09.RingNobody': WHATEVER THE INPUT: true; the input reads as it did. -/
def ringNobodySpec : ChangeSpec := { name := "ringNobody", fn := fun _ => fun
  | [d] => { results := [.lit (.bool true)], args := [d] }
  | _ => none }
def ringNobodyRow : OpenClaim := { program := "ytgmbamehmecnlaa", sum := "2f0d1ce7b3c7750fabe5f60e591f0b6eeeb902e33800c6ece2917873123960a7", func := "quitrent/quitrentlaw09.RingNobody", spec := "ringNobody", inPlace := ["sync/atomic.AddUint64"], unfollowed := true, recurses := true, apart := false }
def RingNobodySaid : Prop := ringNobodyRow.holds Try.pinned (OpenSpec.ofChange ringNobodySpec)

/-- ITS FALSE NEIGHBOUR: 'it returns false'. Refute it at one input. -/
def ringNobodyWrong : ChangeSpec := { name := "ringNobody", fn := fun _ => fun
  | [d] => { results := [.lit (.bool false)], args := [d] }
  | _ => none }
def RingNobodyWrongFalsely : Prop := ringNobodyRow.holds Try.pinned (OpenSpec.ofChange ringNobodyWrong)

/-- 'quitrentlaw10.PoolNobody': WHATEVER THE INPUT: true; the input reads as it did. -/
def poolNobodySpec : ChangeSpec := { name := "poolNobody", fn := fun _ => fun
  | [d1, d2] => { results := [.lit (.bool true)], args := [d1, d2] }
  | _ => none }
def poolNobodyRow : OpenClaim := { program := "ytgmbamehmecnlaa", sum := "2f0d1ce7b3c7750fabe5f60e591f0b6eeeb902e33800c6ece2917873123960a7", func := "quitrent/quitrentlaw10.PoolNobody", spec := "poolNobody", inPlace := ["sync/atomic.AddUint64"], unfollowed := true, recurses := true, apart := false }
def PoolNobodySaid : Prop := poolNobodyRow.holds Try.pinned (OpenSpec.ofChange poolNobodySpec)

/-- ITS FALSE NEIGHBOUR: 'it returns false'. Refute it at one input. -/
def poolNobodyWrong : ChangeSpec := { name := "poolNobody", fn := fun _ => fun
  | [d1, d2] => { results := [.lit (.bool false)], args := [d1, d2] }
  | _ => none }
def PoolNobodyWrongFalsely : Prop := poolNobodyRow.holds Try.pinned (OpenSpec.ofChange poolNobodyWrong)

/-- 'quitrentlaw11.ObjNobody': WHATEVER THE INPUT: true; the input reads as it did. -/
def objNobodySpec : ChangeSpec := { name := "objNobody", fn := fun _ => fun
  | [d1, d2, d3] => { results := [.lit (.bool true)], args := [d1, d2, d3] }
  | _ => none }
def objNobodyRow : OpenClaim := { program := "ytgmbamehmecnlaa", sum := "2f0d1ce7b3c7750fabe5f60e591f0b6eeeb902e33800c6ece2917873123960a7", func := "quitrent/quitrentlaw11.ObjNobody", spec := "objNobody", inPlace := ["sync/atomic.AddUint64"], unfollowed := true, recurses := true, apart := false }
def ObjNobodySaid : Prop := objNobodyRow.holds Try.pinned (OpenSpec.ofChange objNobodySpec)

/-- ITS FALSE NEIGHBOUR: 'it returns false'. Refute it at one input. -/
def objNobodyWrong : ChangeSpec := { name := "objNobody", fn := fun _ => fun
  | [d1, d2, d3] => { results := [.lit (.bool false)], args := [d1, d2, d3] }
  | _ => none }
def ObjNobodyWrongFalsely : Prop := objNobodyRow.holds Try.pinned (OpenSpec.ofChange objNobodyWrong)

/- THE SECOND FORM. 'bulk': how many values and letters a reading holds, each counted each time it is reached (what is shared counts as often as it is met; a slice's spare places count too). A statement '..UptoSaid' is the law's where the arguments, and the package variables that the reading takes, are together of bulk at most 1048576: NARROWER than '..Said'. Prove '..Said' where nothing that the law and all that it calls make is longer than what came in: it says more and counts as full. Else prove '..UptoSaid'. A law counts once. -/
mutual
def uptoBulk {H : Type} : DataW H → Nat
  | .lit (.string bytes) => bytes.length + 1
  | .lit _ => 1
  | .nil => 1
  | .ptr d => uptoBulk d + 1
  | .slice elems spare => uptoBulkAll elems + uptoBulkAll spare + 1
  | .agg parts => uptoBulkAll parts + 1
  | .iface _ d => uptoBulk d + 1
  | .map entries => uptoBulkEntries entries + 1
  | .held _ => 1
def uptoBulkAll {H : Type} : List (DataW H) → Nat
  | [] => 0
  | d :: r => uptoBulk d + uptoBulkAll r
def uptoBulkEntries {H : Type} : List (Lit × DataW H) → Nat
  | [] => 0
  | x :: r => uptoBulkEntry x + uptoBulkEntries r
def uptoBulkEntry {H : Type} : Lit × DataW H → Nat
  | (.string bytes, d) => bytes.length + uptoBulk d + 1
  | (_, d) => uptoBulk d + 1
 end
def uptoSmall : (H : Type) → List (DataW H) → Bool := fun _ ds => decide (uptoBulkAll ds ≤ 1048576)
def OpenSpec.upto (s : _root_.Go.ChangeSpec) : _root_.Go.OpenSpec := { _root_.Go.OpenSpec.ofChange s with cond := some uptoSmall }

/-- 'quitrentlaw12.CountAlone', WHERE WHAT IT READS IS OF BULK AT MOST 1048576: true; the input reads as it did. -/
def countAloneUptoRow : OpenClaim := { program := "ytgmbamehmecnlaa", sum := "2f0d1ce7b3c7750fabe5f60e591f0b6eeeb902e33800c6ece2917873123960a7", func := "quitrent/quitrentlaw12.CountAlone", spec := "countAlone", inPlace := ["sync/atomic.AddUint64"], unfollowed := true, recurses := true, apart := false, narrowed := true }
def CountAloneUptoSaid : Prop := countAloneUptoRow.holds Try.pinned (OpenSpec.upto countAloneSpec)

/-- 'quitrentlaw12.CountNobody', WHERE WHAT IT READS IS OF BULK AT MOST 1048576: true; the input reads as it did. -/
def countNobodyUptoRow : OpenClaim := { program := "ytgmbamehmecnlaa", sum := "2f0d1ce7b3c7750fabe5f60e591f0b6eeeb902e33800c6ece2917873123960a7", func := "quitrent/quitrentlaw12.CountNobody", spec := "countNobody", inPlace := ["sync/atomic.AddUint64"], unfollowed := true, recurses := true, apart := false, narrowed := true }
def CountNobodyUptoSaid : Prop := countNobodyUptoRow.holds Try.pinned (OpenSpec.upto countNobodySpec)

/-- 'quitrenttop.WholeRows', WHERE WHAT IT READS IS OF BULK AT MOST 1048576: true; the input reads as it did. -/
def wholeRowsUptoRow : OpenClaim := { program := "ytgmbamehmecnlaa", sum := "2f0d1ce7b3c7750fabe5f60e591f0b6eeeb902e33800c6ece2917873123960a7", func := "quitrent/quitrenttop.WholeRows", spec := "wholeRows", inPlace := ["sync/atomic.AddUint64"], unfollowed := true, recurses := true, apart := false, narrowed := true }
def WholeRowsUptoSaid : Prop := wholeRowsUptoRow.holds Try.pinned (OpenSpec.upto wholeRowsSpec)

/-- 'quitrentlaw09.RingNobody', WHERE WHAT IT READS IS OF BULK AT MOST 1048576: true; the input reads as it did. -/
def ringNobodyUptoRow : OpenClaim := { program := "ytgmbamehmecnlaa", sum := "2f0d1ce7b3c7750fabe5f60e591f0b6eeeb902e33800c6ece2917873123960a7", func := "quitrent/quitrentlaw09.RingNobody", spec := "ringNobody", inPlace := ["sync/atomic.AddUint64"], unfollowed := true, recurses := true, apart := false, narrowed := true }
def RingNobodyUptoSaid : Prop := ringNobodyUptoRow.holds Try.pinned (OpenSpec.upto ringNobodySpec)

/-- 'quitrentlaw10.PoolNobody', WHERE WHAT IT READS IS OF BULK AT MOST 1048576: true; the input reads as it did. -/
def poolNobodyUptoRow : OpenClaim := { program := "ytgmbamehmecnlaa", sum := "2f0d1ce7b3c7750fabe5f60e591f0b6eeeb902e33800c6ece2917873123960a7", func := "quitrent/quitrentlaw10.PoolNobody", spec := "poolNobody", inPlace := ["sync/atomic.AddUint64"], unfollowed := true, recurses := true, apart := false, narrowed := true }
def PoolNobodyUptoSaid : Prop := poolNobodyUptoRow.holds Try.pinned (OpenSpec.upto poolNobodySpec)

/-- 'quitrentlaw11.ObjNobody', WHERE WHAT IT READS IS OF BULK AT MOST 1048576: true; the input reads as it did. -/
def objNobodyUptoRow : OpenClaim := { program := "ytgmbamehmecnlaa", sum := "2f0d1ce7b3c7750fabe5f60e591f0b6eeeb902e33800c6ece2917873123960a7", func := "quitrent/quitrentlaw11.ObjNobody", spec := "objNobody", inPlace := ["sync/atomic.AddUint64"], unfollowed := true, recurses := true, apart := false, narrowed := true }
def ObjNobodyUptoSaid : Prop := objNobodyUptoRow.holds Try.pinned (OpenSpec.upto objNobodySpec)

end Rows
end Go.Proofs.Ytgmbamehmecnlaa
