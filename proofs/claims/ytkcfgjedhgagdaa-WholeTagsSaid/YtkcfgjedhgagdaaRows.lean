/-
  No cell of these rows narrows 'for every input' (looked for: loops, veiled, ifaces, maps, wideKeys, modest, calm, conditions, laid).
  DERIVED. THE GIVEN ROWS OF THIS SEAT. 7 by the template 'for every input the law returns true; each argument reads behind the call as it read before'; 0 by the template 'total and deterministic' (their statements: YtkcfgjedhgagdaaTotals.lean).
  GIVEN WITH THE SEED: the statements are not yours to turn. If you find one false, say at which input.
  Laid BY PROGRAM, IN A SANDBOX (cutbox-rows.mjs): the forced cells as the released guide's own fill.sh prints them over the translation a561952296e63cf0… (all of the seat's roots in one cut). By AI agents, Wed Nov 11 2026. No macro, syntax, notation, axiom, sorry.
-/
import Derived.Test.YtkcfgjedhgagdaaChecked
import GoSem.Claim
import GoSem.ClaimJoined
import GoSem.ClaimMapViews
import Derived.JoinedTies
import Derived.KernelRfl
namespace Go.Proofs.Ytkcfgjedhgagdaa
/- THE CELL 'sum', in the pinned program and in every row, IS THE sha256 OF THE DUMP (.gsa) THAT YtkcfgjedhgagdaaProg.lean LOADS. Nothing in Lean hashes anything: it is a label: what it is worth is what the hold of that sum in a sandbox is worth. -/
noncomputable def Try.pinned : Pinned := { name := "ytkcfgjedhgagdaa", sum := "a561952296e63cf0269b29861b5ef183eaec2c5e0b3e4a1309f440aca735a3e1", checked := Try.checked }
namespace Rows
def none {H : Type} : Left H := { results := [], args := [] }

/-- 'quitrentlaw07.ShapeBlocks': WHATEVER THE INPUT: true; the input reads as it did. -/
def shapeBlocksSpec : ChangeSpec := { name := "shapeBlocks", fn := fun _ => fun
  | [d1, d2, d3] => { results := [.lit (.bool true)], args := [d1, d2, d3] }
  | _ => none }
def shapeBlocksRow : OpenClaim := { program := "ytkcfgjedhgagdaa", sum := "a561952296e63cf0269b29861b5ef183eaec2c5e0b3e4a1309f440aca735a3e1", func := "quitrent/quitrentlaw07.ShapeBlocks", spec := "shapeBlocks", apart := false }
def ShapeBlocksSaid : Prop := shapeBlocksRow.holds Try.pinned (OpenSpec.ofChange shapeBlocksSpec)

/-- ITS FALSE NEIGHBOUR: 'it returns false'. Refute it at one input. -/
def shapeBlocksWrong : ChangeSpec := { name := "shapeBlocks", fn := fun _ => fun
  | [d1, d2, d3] => { results := [.lit (.bool false)], args := [d1, d2, d3] }
  | _ => none }
def ShapeBlocksWrongFalsely : Prop := shapeBlocksRow.holds Try.pinned (OpenSpec.ofChange shapeBlocksWrong)

/-- 'quitrentlaw07.ShapePlaces': WHATEVER THE INPUT: true; the input reads as it did. -/
def shapePlacesSpec : ChangeSpec := { name := "shapePlaces", fn := fun _ => fun
  | [d1, d2, d3, d4, d5] => { results := [.lit (.bool true)], args := [d1, d2, d3, d4, d5] }
  | _ => none }
def shapePlacesRow : OpenClaim := { program := "ytkcfgjedhgagdaa", sum := "a561952296e63cf0269b29861b5ef183eaec2c5e0b3e4a1309f440aca735a3e1", func := "quitrent/quitrentlaw07.ShapePlaces", spec := "shapePlaces", apart := false }
def ShapePlacesSaid : Prop := shapePlacesRow.holds Try.pinned (OpenSpec.ofChange shapePlacesSpec)

/-- ITS FALSE NEIGHBOUR: 'it returns false'. Refute it at one input. -/
def shapePlacesWrong : ChangeSpec := { name := "shapePlaces", fn := fun _ => fun
  | [d1, d2, d3, d4, d5] => { results := [.lit (.bool false)], args := [d1, d2, d3, d4, d5] }
  | _ => none }
def ShapePlacesWrongFalsely : Prop := shapePlacesRow.holds Try.pinned (OpenSpec.ofChange shapePlacesWrong)

/-- 'quitrentlaw07.ShapeFull': WHATEVER THE INPUT: true; the input reads as it did. -/
def shapeFullSpec : ChangeSpec := { name := "shapeFull", fn := fun _ => fun
  | [d1, d2, d3, d4] => { results := [.lit (.bool true)], args := [d1, d2, d3, d4] }
  | _ => none }
def shapeFullRow : OpenClaim := { program := "ytkcfgjedhgagdaa", sum := "a561952296e63cf0269b29861b5ef183eaec2c5e0b3e4a1309f440aca735a3e1", func := "quitrent/quitrentlaw07.ShapeFull", spec := "shapeFull", apart := false }
def ShapeFullSaid : Prop := shapeFullRow.holds Try.pinned (OpenSpec.ofChange shapeFullSpec)

/-- ITS FALSE NEIGHBOUR: 'it returns false'. Refute it at one input. -/
def shapeFullWrong : ChangeSpec := { name := "shapeFull", fn := fun _ => fun
  | [d1, d2, d3, d4] => { results := [.lit (.bool false)], args := [d1, d2, d3, d4] }
  | _ => none }
def ShapeFullWrongFalsely : Prop := shapeFullRow.holds Try.pinned (OpenSpec.ofChange shapeFullWrong)

/-- 'quitrentlaw07.ShapeApart': WHATEVER THE INPUT: true; the input reads as it did. -/
def shapeApartSpec : ChangeSpec := { name := "shapeApart", fn := fun _ => fun
  | [d1, d2, d3, d4] => { results := [.lit (.bool true)], args := [d1, d2, d3, d4] }
  | _ => none }
def shapeApartRow : OpenClaim := { program := "ytkcfgjedhgagdaa", sum := "a561952296e63cf0269b29861b5ef183eaec2c5e0b3e4a1309f440aca735a3e1", func := "quitrent/quitrentlaw07.ShapeApart", spec := "shapeApart", apart := false }
def ShapeApartSaid : Prop := shapeApartRow.holds Try.pinned (OpenSpec.ofChange shapeApartSpec)

/-- ITS FALSE NEIGHBOUR: 'it returns false'. Refute it at one input. -/
def shapeApartWrong : ChangeSpec := { name := "shapeApart", fn := fun _ => fun
  | [d1, d2, d3, d4] => { results := [.lit (.bool false)], args := [d1, d2, d3, d4] }
  | _ => none }
def ShapeApartWrongFalsely : Prop := shapeApartRow.holds Try.pinned (OpenSpec.ofChange shapeApartWrong)

/-- 'quitrentlaw07.ShapeAll': WHATEVER THE INPUT: true; the input reads as it did. -/
def shapeAllSpec : ChangeSpec := { name := "shapeAll", fn := fun _ => fun
  | [d1, d2] => { results := [.lit (.bool true)], args := [d1, d2] }
  | _ => none }
def shapeAllRow : OpenClaim := { program := "ytkcfgjedhgagdaa", sum := "a561952296e63cf0269b29861b5ef183eaec2c5e0b3e4a1309f440aca735a3e1", func := "quitrent/quitrentlaw07.ShapeAll", spec := "shapeAll", apart := false }
def ShapeAllSaid : Prop := shapeAllRow.holds Try.pinned (OpenSpec.ofChange shapeAllSpec)

/-- ITS FALSE NEIGHBOUR: 'it returns false'. Refute it at one input. -/
def shapeAllWrong : ChangeSpec := { name := "shapeAll", fn := fun _ => fun
  | [d1, d2] => { results := [.lit (.bool false)], args := [d1, d2] }
  | _ => none }
def ShapeAllWrongFalsely : Prop := shapeAllRow.holds Try.pinned (OpenSpec.ofChange shapeAllWrong)

/-- 'quitrenttop.WholeSizes': WHATEVER THE INPUT: true; the input reads as it did. -/
def wholeSizesSpec : ChangeSpec := { name := "wholeSizes", fn := fun _ => fun
  | [d1, d2] => { results := [.lit (.bool true)], args := [d1, d2] }
  | _ => none }
def wholeSizesRow : OpenClaim := { program := "ytkcfgjedhgagdaa", sum := "a561952296e63cf0269b29861b5ef183eaec2c5e0b3e4a1309f440aca735a3e1", func := "quitrent/quitrenttop.WholeSizes", spec := "wholeSizes", unfollowed := true, recurses := true, apart := false }
def WholeSizesSaid : Prop := wholeSizesRow.holds Try.pinned (OpenSpec.ofChange wholeSizesSpec)

/-- ITS FALSE NEIGHBOUR: 'it returns false'. Refute it at one input. -/
def wholeSizesWrong : ChangeSpec := { name := "wholeSizes", fn := fun _ => fun
  | [d1, d2] => { results := [.lit (.bool false)], args := [d1, d2] }
  | _ => none }
def WholeSizesWrongFalsely : Prop := wholeSizesRow.holds Try.pinned (OpenSpec.ofChange wholeSizesWrong)

/-- 'quitrenttop.WholeTags': WHATEVER THE INPUT: true; the input reads as it did. -/
def wholeTagsSpec : ChangeSpec := { name := "wholeTags", fn := fun _ => fun
  | [d1, d2, d3] => { results := [.lit (.bool true)], args := [d1, d2, d3] }
  | _ => none }
def wholeTagsRow : OpenClaim := { program := "ytkcfgjedhgagdaa", sum := "a561952296e63cf0269b29861b5ef183eaec2c5e0b3e4a1309f440aca735a3e1", func := "quitrent/quitrenttop.WholeTags", spec := "wholeTags", inPlace := ["sync/atomic.AddUint64"], unfollowed := true, recurses := true, apart := false }
def WholeTagsSaid : Prop := wholeTagsRow.holds Try.pinned (OpenSpec.ofChange wholeTagsSpec)

/-- ITS FALSE NEIGHBOUR: 'it returns false'. Refute it at one input. -/
def wholeTagsWrong : ChangeSpec := { name := "wholeTags", fn := fun _ => fun
  | [d1, d2, d3] => { results := [.lit (.bool false)], args := [d1, d2, d3] }
  | _ => none }
def WholeTagsWrongFalsely : Prop := wholeTagsRow.holds Try.pinned (OpenSpec.ofChange wholeTagsWrong)

/- THE SECOND FORM. 'bulk': how many values and letters a reading holds, each counted each time it is reached (what is shared counts as often as it is met; a slice's spare places count too). A statement '..UptoSaid' is the law's where the arguments, and the package variables that the reading takes, are together of bulk at most 1048576: NARROWER than '..Said'. Prove '..Said' where nothing that the law and all that it calls make is longer than what came in: it says more and counts as full. Else prove '..UptoSaid'. A law counts once. -/
mutual
def uptoBulk {H : Type} : DataW H → Nat
  | .lit (.string bytes) => bytes.length + 1
  | .lit _ => 1
  | .nil => 1
  | .ptr d => uptoBulk d + 1
  | .slice elems spare => uptoBulkAll elems + uptoBulkAll spare + 1
  | .agg parts => uptoBulkAll parts + 1
  | .iface _ d => uptoBulk d + 1
  | .map entries => uptoBulkEntries entries + 1
  | .held _ => 1
def uptoBulkAll {H : Type} : List (DataW H) → Nat
  | [] => 0
  | d :: r => uptoBulk d + uptoBulkAll r
def uptoBulkEntries {H : Type} : List (Lit × DataW H) → Nat
  | [] => 0
  | x :: r => uptoBulkEntry x + uptoBulkEntries r
def uptoBulkEntry {H : Type} : Lit × DataW H → Nat
  | (.string bytes, d) => bytes.length + uptoBulk d + 1
  | (_, d) => uptoBulk d + 1
 end
def uptoSmall : (H : Type) → List (DataW H) → Bool := fun _ ds => decide (uptoBulkAll ds ≤ 1048576)
def OpenSpec.upto (s : _root_.Go.ChangeSpec) : _root_.Go.OpenSpec := { _root_.Go.OpenSpec.ofChange s with cond := some uptoSmall }

/-- 'quitrentlaw07.ShapeBlocks', WHERE WHAT IT READS IS OF BULK AT MOST 1048576: true; the input reads as it did. -/
def shapeBlocksUptoRow : OpenClaim := { program := "ytkcfgjedhgagdaa", sum := "a561952296e63cf0269b29861b5ef183eaec2c5e0b3e4a1309f440aca735a3e1", func := "quitrent/quitrentlaw07.ShapeBlocks", spec := "shapeBlocks", apart := false, narrowed := true }
def ShapeBlocksUptoSaid : Prop := shapeBlocksUptoRow.holds Try.pinned (OpenSpec.upto shapeBlocksSpec)

/-- 'quitrentlaw07.ShapePlaces', WHERE WHAT IT READS IS OF BULK AT MOST 1048576: true; the input reads as it did. -/
def shapePlacesUptoRow : OpenClaim := { program := "ytkcfgjedhgagdaa", sum := "a561952296e63cf0269b29861b5ef183eaec2c5e0b3e4a1309f440aca735a3e1", func := "quitrent/quitrentlaw07.ShapePlaces", spec := "shapePlaces", apart := false, narrowed := true }
def ShapePlacesUptoSaid : Prop := shapePlacesUptoRow.holds Try.pinned (OpenSpec.upto shapePlacesSpec)

/-- 'quitrentlaw07.ShapeFull', WHERE WHAT IT READS IS OF BULK AT MOST 1048576: true; the input reads as it did. -/
def shapeFullUptoRow : OpenClaim := { program := "ytkcfgjedhgagdaa", sum := "a561952296e63cf0269b29861b5ef183eaec2c5e0b3e4a1309f440aca735a3e1", func := "quitrent/quitrentlaw07.ShapeFull", spec := "shapeFull", apart := false, narrowed := true }
def ShapeFullUptoSaid : Prop := shapeFullUptoRow.holds Try.pinned (OpenSpec.upto shapeFullSpec)

/-- 'quitrentlaw07.ShapeApart', WHERE WHAT IT READS IS OF BULK AT MOST 1048576: true; the input reads as it did. -/
def shapeApartUptoRow : OpenClaim := { program := "ytkcfgjedhgagdaa", sum := "a561952296e63cf0269b29861b5ef183eaec2c5e0b3e4a1309f440aca735a3e1", func := "quitrent/quitrentlaw07.ShapeApart", spec := "shapeApart", apart := false, narrowed := true }
def ShapeApartUptoSaid : Prop := shapeApartUptoRow.holds Try.pinned (OpenSpec.upto shapeApartSpec)

/-- 'quitrentlaw07.ShapeAll', WHERE WHAT IT READS IS OF BULK AT MOST 1048576: true; the input reads as it did. -/
def shapeAllUptoRow : OpenClaim := { program := "ytkcfgjedhgagdaa", sum := "a561952296e63cf0269b29861b5ef183eaec2c5e0b3e4a1309f440aca735a3e1", func := "quitrent/quitrentlaw07.ShapeAll", spec := "shapeAll", apart := false, narrowed := true }
def ShapeAllUptoSaid : Prop := shapeAllUptoRow.holds Try.pinned (OpenSpec.upto shapeAllSpec)

/-- 'quitrenttop.WholeSizes', WHERE WHAT IT READS IS OF BULK AT MOST 1048576: true; the input reads as it did. -/
def wholeSizesUptoRow : OpenClaim := { program := "ytkcfgjedhgagdaa", sum := "a561952296e63cf0269b29861b5ef183eaec2c5e0b3e4a1309f440aca735a3e1", func := "quitrent/quitrenttop.WholeSizes", spec := "wholeSizes", unfollowed := true, recurses := true, apart := false, narrowed := true }
def WholeSizesUptoSaid : Prop := wholeSizesUptoRow.holds Try.pinned (OpenSpec.upto wholeSizesSpec)

/-- 'quitrenttop.WholeTags', WHERE WHAT IT READS IS OF BULK AT MOST 1048576: true; the input reads as it did. -/
def wholeTagsUptoRow : OpenClaim := { program := "ytkcfgjedhgagdaa", sum := "a561952296e63cf0269b29861b5ef183eaec2c5e0b3e4a1309f440aca735a3e1", func := "quitrent/quitrenttop.WholeTags", spec := "wholeTags", inPlace := ["sync/atomic.AddUint64"], unfollowed := true, recurses := true, apart := false, narrowed := true }
def WholeTagsUptoSaid : Prop := wholeTagsUptoRow.holds Try.pinned (OpenSpec.upto wholeTagsSpec)

end Rows
end Go.Proofs.Ytkcfgjedhgagdaa
