/-
  No cell of these rows narrows 'for every input' (looked for: loops, veiled, ifaces, maps, wideKeys, modest, calm, conditions, laid).
  DERIVED. THE GIVEN ROWS OF THIS SEAT. 3 by the template 'for every input the law returns true; each argument reads behind the call as it read before'; 0 by the template 'total and deterministic' (their statements: YtofhdfjkhfkhiaaGreatTotals.lean).
  GIVEN WITH THE SEED: the statements are not yours to turn. If you find one false, say at which input.
  Laid BY PROGRAM, IN A SANDBOX (cutbox-rows.mjs): the forced cells as the released guide's own fill.sh prints them over the translation 034e6e66f35d90dc… (all of the seat's roots in one cut). By AI agents, Wed Nov 11 2026. No macro, syntax, notation, axiom, sorry.
-/
import Derived.Test.YtofhdfjkhfkhiaaGreatChecked
import GoSem.Claim
import GoSem.ClaimJoined
import GoSem.ClaimMapViews
import Derived.JoinedTies
import Derived.KernelRfl
namespace Go.Proofs.YtofhdfjkhfkhiaaGreat
/- THE CELL 'sum', in the pinned program and in every row, IS THE sha256 OF THE DUMP (.gsa) THAT YtofhdfjkhfkhiaaGreatProg.lean LOADS. Nothing in Lean hashes anything: it is a label: what it is worth is what the hold of that sum in a sandbox is worth. -/
noncomputable def Tryz.pinned : Pinned := { name := "ytofhdfjkhfkhiaagreat", sum := "034e6e66f35d90dc8b2c8455125cb93f12cad18df5f4ad1d0755ca5e3c7aadbd", checked := Tryz.checked }
namespace Rows
def none {H : Type} : Left H := { results := [], args := [] }

/-- 'quitrentlaw17.FloodReaches': WHATEVER THE INPUT: true; the input reads as it did. -/
def floodReachesSpec : ChangeSpec := { name := "floodReaches", fn := fun _ => fun
  | [d1, d2] => { results := [.lit (.bool true)], args := [d1, d2] }
  | _ => none }
def floodReachesRow : OpenClaim := { program := "ytofhdfjkhfkhiaagreat", sum := "034e6e66f35d90dc8b2c8455125cb93f12cad18df5f4ad1d0755ca5e3c7aadbd", func := "quitrent/quitrentlaw17.FloodReaches", spec := "floodReaches", inPlace := ["sync/atomic.AddUint64"], unfollowed := true, recurses := true, apart := false }
def FloodReachesSaid : Prop := floodReachesRow.holds Tryz.pinned (OpenSpec.ofChange floodReachesSpec)

/-- ITS FALSE NEIGHBOUR: 'it returns false'. Refute it at one input. -/
def floodReachesWrong : ChangeSpec := { name := "floodReaches", fn := fun _ => fun
  | [d1, d2] => { results := [.lit (.bool false)], args := [d1, d2] }
  | _ => none }
def FloodReachesWrongFalsely : Prop := floodReachesRow.holds Tryz.pinned (OpenSpec.ofChange floodReachesWrong)

/-- 'quitrentlaw17.FloodFinds': WHATEVER THE INPUT: true; the input reads as it did. -/
def floodFindsSpec : ChangeSpec := { name := "floodFinds", fn := fun _ => fun
  | [d1, d2, d3, d4, d5] => { results := [.lit (.bool true)], args := [d1, d2, d3, d4, d5] }
  | _ => none }
def floodFindsRow : OpenClaim := { program := "ytofhdfjkhfkhiaagreat", sum := "034e6e66f35d90dc8b2c8455125cb93f12cad18df5f4ad1d0755ca5e3c7aadbd", func := "quitrent/quitrentlaw17.FloodFinds", spec := "floodFinds", inPlace := ["sync/atomic.AddUint64"], unfollowed := true, recurses := true, apart := false }
def FloodFindsSaid : Prop := floodFindsRow.holds Tryz.pinned (OpenSpec.ofChange floodFindsSpec)

/-- ITS FALSE NEIGHBOUR: 'it returns false'. Refute it at one input. -/
def floodFindsWrong : ChangeSpec := { name := "floodFinds", fn := fun _ => fun
  | [d1, d2, d3, d4, d5] => { results := [.lit (.bool false)], args := [d1, d2, d3, d4, d5] }
  | _ => none }
def FloodFindsWrongFalsely : Prop := floodFindsRow.holds Tryz.pinned (OpenSpec.ofChange floodFindsWrong)

/-- 'quitrentlaw17.FloodPlays': WHATEVER THE INPUT: true; the input reads as it did. -/
def floodPlaysSpec : ChangeSpec := { name := "floodPlays", fn := fun _ => fun
  | [d1, d2, d3] => { results := [.lit (.bool true)], args := [d1, d2, d3] }
  | _ => none }
def floodPlaysRow : OpenClaim := { program := "ytofhdfjkhfkhiaagreat", sum := "034e6e66f35d90dc8b2c8455125cb93f12cad18df5f4ad1d0755ca5e3c7aadbd", func := "quitrent/quitrentlaw17.FloodPlays", spec := "floodPlays", inPlace := ["sync/atomic.AddUint64", "sync/atomic.LoadUint64"], unfollowed := true, recurses := true, apart := false }
def FloodPlaysSaid : Prop := floodPlaysRow.holds Tryz.pinned (OpenSpec.ofChange floodPlaysSpec)

/-- ITS FALSE NEIGHBOUR: 'it returns false'. Refute it at one input. -/
def floodPlaysWrong : ChangeSpec := { name := "floodPlays", fn := fun _ => fun
  | [d1, d2, d3] => { results := [.lit (.bool false)], args := [d1, d2, d3] }
  | _ => none }
def FloodPlaysWrongFalsely : Prop := floodPlaysRow.holds Tryz.pinned (OpenSpec.ofChange floodPlaysWrong)

/- THE SECOND FORM. 'bulk': how many values and letters a reading holds, each counted each time it is reached (what is shared counts as often as it is met; a slice's spare places count too). A statement '..UptoSaid' is the law's where the arguments, and the package variables that the reading takes, are together of bulk at most 1048576: NARROWER than '..Said'. Prove '..Said' where nothing that the law and all that it calls make is longer than what came in: it says more and counts as full. Else prove '..UptoSaid'. A law counts once. -/
mutual
def uptoBulk {H : Type} : DataW H → Nat
  | .lit (.string bytes) => bytes.length + 1
  | .lit _ => 1
  | .nil => 1
  | .ptr d => uptoBulk d + 1
  | .slice elems spare => uptoBulkAll elems + uptoBulkAll spare + 1
  | .agg parts => uptoBulkAll parts + 1
  | .iface _ d => uptoBulk d + 1
  | .map entries => uptoBulkEntries entries + 1
  | .held _ => 1
def uptoBulkAll {H : Type} : List (DataW H) → Nat
  | [] => 0
  | d :: r => uptoBulk d + uptoBulkAll r
def uptoBulkEntries {H : Type} : List (Lit × DataW H) → Nat
  | [] => 0
  | x :: r => uptoBulkEntry x + uptoBulkEntries r
def uptoBulkEntry {H : Type} : Lit × DataW H → Nat
  | (.string bytes, d) => bytes.length + uptoBulk d + 1
  | (_, d) => uptoBulk d + 1
 end
def uptoSmall : (H : Type) → List (DataW H) → Bool := fun _ ds => decide (uptoBulkAll ds ≤ 1048576)
def OpenSpec.upto (s : _root_.Go.ChangeSpec) : _root_.Go.OpenSpec := { _root_.Go.OpenSpec.ofChange s with cond := some uptoSmall }

/-- 'quitrentlaw17.FloodReaches', WHERE WHAT IT READS IS OF BULK AT MOST 1048576: true; the input reads as it did. -/
def floodReachesUptoRow : OpenClaim := { program := "ytofhdfjkhfkhiaagreat", sum := "034e6e66f35d90dc8b2c8455125cb93f12cad18df5f4ad1d0755ca5e3c7aadbd", func := "quitrent/quitrentlaw17.FloodReaches", spec := "floodReaches", inPlace := ["sync/atomic.AddUint64"], unfollowed := true, recurses := true, apart := false, narrowed := true }
def FloodReachesUptoSaid : Prop := floodReachesUptoRow.holds Tryz.pinned (OpenSpec.upto floodReachesSpec)

/-- 'quitrentlaw17.FloodFinds', WHERE WHAT IT READS IS OF BULK AT MOST 1048576: true; the input reads as it did. -/
def floodFindsUptoRow : OpenClaim := { program := "ytofhdfjkhfkhiaagreat", sum := "034e6e66f35d90dc8b2c8455125cb93f12cad18df5f4ad1d0755ca5e3c7aadbd", func := "quitrent/quitrentlaw17.FloodFinds", spec := "floodFinds", inPlace := ["sync/atomic.AddUint64"], unfollowed := true, recurses := true, apart := false, narrowed := true }
def FloodFindsUptoSaid : Prop := floodFindsUptoRow.holds Tryz.pinned (OpenSpec.upto floodFindsSpec)

/-- 'quitrentlaw17.FloodPlays', WHERE WHAT IT READS IS OF BULK AT MOST 1048576: true; the input reads as it did. -/
def floodPlaysUptoRow : OpenClaim := { program := "ytofhdfjkhfkhiaagreat", sum := "034e6e66f35d90dc8b2c8455125cb93f12cad18df5f4ad1d0755ca5e3c7aadbd", func := "quitrent/quitrentlaw17.FloodPlays", spec := "floodPlays", inPlace := ["sync/atomic.AddUint64", "sync/atomic.LoadUint64"], unfollowed := true, recurses := true, apart := false, narrowed := true }
def FloodPlaysUptoSaid : Prop := floodPlaysUptoRow.holds Tryz.pinned (OpenSpec.upto floodPlaysSpec)

end Rows
end Go.Proofs.YtofhdfjkhfkhiaaGreat
