/-
  No cell of these rows narrows 'for every input' (looked for: loops, veiled, ifaces, maps, wideKeys, modest, calm, conditions, laid).
  DERIVED. THE GIVEN ROWS OF THIS SEAT. 3 by the template 'for every input the law returns true; each argument reads behind the call as it read before'; 0 by the template 'total and deterministic' (their statements: YtobgndjejagppaaTotals.lean).
  GIVEN WITH THE SEED: the statements are not yours to turn. If you find one false, say at which input.
  Laid BY PROGRAM, IN A SANDBOX (cutbox-rows.mjs): the forced cells as the released guide's own fill.sh prints them over the translation 4d565687b8a2a013… (all of the seat's roots in one cut). By AI agents, Wed Nov 11 2026. No macro, syntax, notation, axiom, sorry.
-/
import Derived.Test.YtobgndjejagppaaChecked
import GoSem.Claim
import GoSem.ClaimJoined
import GoSem.ClaimMapViews
import Derived.JoinedTies
import Derived.KernelRfl
namespace Go.Proofs.Ytobgndjejagppaa
/- THE CELL 'sum', in the pinned program and in every row, IS THE sha256 OF THE DUMP (.gsa) THAT YtobgndjejagppaaProg.lean LOADS. Nothing in Lean hashes anything: it is a label: what it is worth is what the hold of that sum in a sandbox is worth. -/
noncomputable def Try.pinned : Pinned := { name := "ytobgndjejagppaa", sum := "4d565687b8a2a0139d1394a4d171c7b73b2fb5e783071e2cd25c7a5e8da3cd23", checked := Try.checked }
namespace Rows
def none {H : Type} : Left H := { results := [], args := [] }

/-- 'quitrentlaw11.ObjApart': WHATEVER THE INPUT: true; the input reads as it did. -/
def objApartSpec : ChangeSpec := { name := "objApart", fn := fun _ => fun
  | [d1, d2, d3, d4, d5] => { results := [.lit (.bool true)], args := [d1, d2, d3, d4, d5] }
  | _ => none }
def objApartRow : OpenClaim := { program := "ytobgndjejagppaa", sum := "4d565687b8a2a0139d1394a4d171c7b73b2fb5e783071e2cd25c7a5e8da3cd23", func := "quitrent/quitrentlaw11.ObjApart", spec := "objApart", inPlace := ["sync/atomic.AddUint64"], unfollowed := true, recurses := true, apart := false }
def ObjApartSaid : Prop := objApartRow.holds Try.pinned (OpenSpec.ofChange objApartSpec)

/-- ITS FALSE NEIGHBOUR: 'it returns false'. Refute it at one input. -/
def objApartWrong : ChangeSpec := { name := "objApart", fn := fun _ => fun
  | [d1, d2, d3, d4, d5] => { results := [.lit (.bool false)], args := [d1, d2, d3, d4, d5] }
  | _ => none }
def ObjApartWrongFalsely : Prop := objApartRow.holds Try.pinned (OpenSpec.ofChange objApartWrong)

/-- 'quitrentlaw11.ObjWhole': WHATEVER THE INPUT: true; the input reads as it did. -/
def objWholeSpec : ChangeSpec := { name := "objWhole", fn := fun _ => fun
  | [d1, d2, d3] => { results := [.lit (.bool true)], args := [d1, d2, d3] }
  | _ => none }
def objWholeRow : OpenClaim := { program := "ytobgndjejagppaa", sum := "4d565687b8a2a0139d1394a4d171c7b73b2fb5e783071e2cd25c7a5e8da3cd23", func := "quitrent/quitrentlaw11.ObjWhole", spec := "objWhole", inPlace := ["sync/atomic.AddUint64"], unfollowed := true, recurses := true, apart := false }
def ObjWholeSaid : Prop := objWholeRow.holds Try.pinned (OpenSpec.ofChange objWholeSpec)

/-- ITS FALSE NEIGHBOUR: 'it returns false'. Refute it at one input. -/
def objWholeWrong : ChangeSpec := { name := "objWhole", fn := fun _ => fun
  | [d1, d2, d3] => { results := [.lit (.bool false)], args := [d1, d2, d3] }
  | _ => none }
def ObjWholeWrongFalsely : Prop := objWholeRow.holds Try.pinned (OpenSpec.ofChange objWholeWrong)

/-- 'quitrentlaw11.ObjNobody': WHATEVER THE INPUT: true; the input reads as it did. -/
def objNobodySpec : ChangeSpec := { name := "objNobody", fn := fun _ => fun
  | [d1, d2, d3] => { results := [.lit (.bool true)], args := [d1, d2, d3] }
  | _ => none }
def objNobodyRow : OpenClaim := { program := "ytobgndjejagppaa", sum := "4d565687b8a2a0139d1394a4d171c7b73b2fb5e783071e2cd25c7a5e8da3cd23", func := "quitrent/quitrentlaw11.ObjNobody", spec := "objNobody", inPlace := ["sync/atomic.AddUint64"], unfollowed := true, recurses := true, apart := false }
def ObjNobodySaid : Prop := objNobodyRow.holds Try.pinned (OpenSpec.ofChange objNobodySpec)

/-- ITS FALSE NEIGHBOUR: 'it returns false'. Refute it at one input. -/
def objNobodyWrong : ChangeSpec := { name := "objNobody", fn := fun _ => fun
  | [d1, d2, d3] => { results := [.lit (.bool false)], args := [d1, d2, d3] }
  | _ => none }
def ObjNobodyWrongFalsely : Prop := objNobodyRow.holds Try.pinned (OpenSpec.ofChange objNobodyWrong)

/- THE SECOND FORM. 'bulk': how many values and letters a reading holds, each counted each time it is reached (what is shared counts as often as it is met; a slice's spare places count too). A statement '..UptoSaid' is the law's where the arguments, and the package variables that the reading takes, are together of bulk at most 1048576: NARROWER than '..Said'. Prove '..Said' where nothing that the law and all that it calls make is longer than what came in: it says more and counts as full. Else prove '..UptoSaid'. A law counts once. -/
mutual
def uptoBulk {H : Type} : DataW H → Nat
  | .lit (.string bytes) => bytes.length + 1
  | .lit _ => 1
  | .nil => 1
  | .ptr d => uptoBulk d + 1
  | .slice elems spare => uptoBulkAll elems + uptoBulkAll spare + 1
  | .agg parts => uptoBulkAll parts + 1
  | .iface _ d => uptoBulk d + 1
  | .map entries => uptoBulkEntries entries + 1
  | .held _ => 1
def uptoBulkAll {H : Type} : List (DataW H) → Nat
  | [] => 0
  | d :: r => uptoBulk d + uptoBulkAll r
def uptoBulkEntries {H : Type} : List (Lit × DataW H) → Nat
  | [] => 0
  | x :: r => uptoBulkEntry x + uptoBulkEntries r
def uptoBulkEntry {H : Type} : Lit × DataW H → Nat
  | (.string bytes, d) => bytes.length + uptoBulk d + 1
  | (_, d) => uptoBulk d + 1
 end
def uptoSmall : (H : Type) → List (DataW H) → Bool := fun _ ds => decide (uptoBulkAll ds ≤ 1048576)
def OpenSpec.upto (s : _root_.Go.ChangeSpec) : _root_.Go.OpenSpec := { _root_.Go.OpenSpec.ofChange s with cond := some uptoSmall }

/-- 'quitrentlaw11.ObjApart', WHERE WHAT IT READS IS OF BULK AT MOST 1048576: true; the input reads as it did. -/
def objApartUptoRow : OpenClaim := { program := "ytobgndjejagppaa", sum := "4d565687b8a2a0139d1394a4d171c7b73b2fb5e783071e2cd25c7a5e8da3cd23", func := "quitrent/quitrentlaw11.ObjApart", spec := "objApart", inPlace := ["sync/atomic.AddUint64"], unfollowed := true, recurses := true, apart := false, narrowed := true }
def ObjApartUptoSaid : Prop := objApartUptoRow.holds Try.pinned (OpenSpec.upto objApartSpec)

/-- 'quitrentlaw11.ObjWhole', WHERE WHAT IT READS IS OF BULK AT MOST 1048576: true; the input reads as it did. -/
def objWholeUptoRow : OpenClaim := { program := "ytobgndjejagppaa", sum := "4d565687b8a2a0139d1394a4d171c7b73b2fb5e783071e2cd25c7a5e8da3cd23", func := "quitrent/quitrentlaw11.ObjWhole", spec := "objWhole", inPlace := ["sync/atomic.AddUint64"], unfollowed := true, recurses := true, apart := false, narrowed := true }
def ObjWholeUptoSaid : Prop := objWholeUptoRow.holds Try.pinned (OpenSpec.upto objWholeSpec)

/-- 'quitrentlaw11.ObjNobody', WHERE WHAT IT READS IS OF BULK AT MOST 1048576: true; the input reads as it did. -/
def objNobodyUptoRow : OpenClaim := { program := "ytobgndjejagppaa", sum := "4d565687b8a2a0139d1394a4d171c7b73b2fb5e783071e2cd25c7a5e8da3cd23", func := "quitrent/quitrentlaw11.ObjNobody", spec := "objNobody", inPlace := ["sync/atomic.AddUint64"], unfollowed := true, recurses := true, apart := false, narrowed := true }
def ObjNobodyUptoSaid : Prop := objNobodyUptoRow.holds Try.pinned (OpenSpec.upto objNobodySpec)

end Rows
end Go.Proofs.Ytobgndjejagppaa
