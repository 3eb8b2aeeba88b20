/-
  Package op: what an operation needs, which slots, how many blocks; and the document's. (tools/mk_OpFn.py writes this text.)
-/
import Derived.Test.YtlgkgijgnmancaaDoorOpNm
import Derived.Test.YtlgkgijgnmancaaDoorRefChain
import Derived.Test.YtlgkgijgnmancaaDoorShape2
import Derived.Test.YtlgkgijgnmancaaDoorRefShape
namespace Go.Proofs.YtlgkgijgnmancaaDoor.Pk
open Go.RowKit
set_option linter.unusedVariables false
set_option linter.unusedSimpArgs false

/-- What is left of an operation's parts when what its kind doesn't need is gone. -/
def opK (k : Int) : Bool := decide (1 ≤ k ∧ k ≤ 10)
def bareK (k : Int) : Int := if opK k then k else 0
def bareA (k a : Int) : Int := if opK k && !decide (k = 10) then a else 0
def bareB (k b : Int) : Int := if opK k && !decide (k = 10 ∨ k = 7 ∨ k = 9) then b else 0
def bareC (k c : Int) : Int := if k = 1 ∨ k = 2 ∨ k = 3 then c else 0
def bareV (k v : Int) : Int := if k = 5 then v else 0
/-- The slots that an operation needs. -/
def slotsL (k a b c : Int) : List Int := if k = 2 ∨ k = 6 ∨ k = 8 then [a, b] else if k = 3 then [a, c] else if opK k && !decide (k = 10) then [a] else []
/-- Of how many blocks the object of an Alloc is. -/
def needsV (W k b c : Int) : Int := if k = 1 then blocksV W b c else 0
abbrev opV (k a b c v : Int) : Value := .agg #[.int .i64 k, .int .i64 a, .int .i64 b, .int .i64 c, .int .u32 v]
abbrev bareOp (k a b c v : Int) : Value := opV (bareK k) (bareA k a) (bareB k b) (bareC k c) (bareV k v)
theorem row_alloc (w1 : World) (zs : List Int) (t : TypeId) {b : Nat} {cs : Array Value} (hb : b = w1.heap.size) (hc : cs = (zs.map (Value.int .i64)).toArray) : Row (w1.alloc (.cells cs t)) .i64 (some ⟨b, 0, none⟩) zs := by subst hb hc; exact Row.lit w1 .i64 zs t
theorem blocksV_no {W p d : Int} (h : sizeE W p d ≠ 0) : blocksV W p d = 0 := by unfold blocksV; rw [if_neg h]
theorem oBare_1 (a b c v : Int) (w : World) : Calls Tryd.prog 15 #[opV 1 a b c v] w fun e w' => e = .returned (opV 1 a b c 0) ∧ Below w.heap.size w w' := by
  go_enter Tryd.func15, Tryd.ntmps15
  go_wp2_with fail
  exact bodyPost_ret (v := opV 1 a b c 0) (by simp [results, Tryd.results15, go_sem]) rfl ⟨rfl, (by repeat (first | exact Below.refl _ _ | refine Below.setCell ?_ (by simp) _ | refine Below.alloc ?_ (by simp) _))⟩
theorem oBare_2 (a b c v : Int) (w : World) : Calls Tryd.prog 15 #[opV 2 a b c v] w fun e w' => e = .returned (opV 2 a b c 0) ∧ Below w.heap.size w w' := by
  go_enter Tryd.func15, Tryd.ntmps15
  go_wp2_with fail
  exact bodyPost_ret (v := opV 2 a b c 0) (by simp [results, Tryd.results15, go_sem]) rfl ⟨rfl, (by repeat (first | exact Below.refl _ _ | refine Below.setCell ?_ (by simp) _ | refine Below.alloc ?_ (by simp) _))⟩
theorem oBare_3 (a b c v : Int) (w : World) : Calls Tryd.prog 15 #[opV 3 a b c v] w fun e w' => e = .returned (opV 3 a b c 0) ∧ Below w.heap.size w w' := by
  go_enter Tryd.func15, Tryd.ntmps15
  go_wp2_with fail
  exact bodyPost_ret (v := opV 3 a b c 0) (by simp [results, Tryd.results15, go_sem]) rfl ⟨rfl, (by repeat (first | exact Below.refl _ _ | refine Below.setCell ?_ (by simp) _ | refine Below.alloc ?_ (by simp) _))⟩
theorem oBare_4 (a b c v : Int) (w : World) : Calls Tryd.prog 15 #[opV 4 a b c v] w fun e w' => e = .returned (opV 4 a b 0 0) ∧ Below w.heap.size w w' := by
  go_enter Tryd.func15, Tryd.ntmps15
  go_wp2_with fail
  exact bodyPost_ret (v := opV 4 a b 0 0) (by simp [results, Tryd.results15, go_sem]) rfl ⟨rfl, (by repeat (first | exact Below.refl _ _ | refine Below.setCell ?_ (by simp) _ | refine Below.alloc ?_ (by simp) _))⟩
theorem oBare_5 (a b c v : Int) (w : World) : Calls Tryd.prog 15 #[opV 5 a b c v] w fun e w' => e = .returned (opV 5 a b 0 v) ∧ Below w.heap.size w w' := by
  go_enter Tryd.func15, Tryd.ntmps15
  go_wp2_with fail
  exact bodyPost_ret (v := opV 5 a b 0 v) (by simp [results, Tryd.results15, go_sem]) rfl ⟨rfl, (by repeat (first | exact Below.refl _ _ | refine Below.setCell ?_ (by simp) _ | refine Below.alloc ?_ (by simp) _))⟩
theorem oBare_6 (a b c v : Int) (w : World) : Calls Tryd.prog 15 #[opV 6 a b c v] w fun e w' => e = .returned (opV 6 a b 0 0) ∧ Below w.heap.size w w' := by
  go_enter Tryd.func15, Tryd.ntmps15
  go_wp2_with fail
  exact bodyPost_ret (v := opV 6 a b 0 0) (by simp [results, Tryd.results15, go_sem]) rfl ⟨rfl, (by repeat (first | exact Below.refl _ _ | refine Below.setCell ?_ (by simp) _ | refine Below.alloc ?_ (by simp) _))⟩
theorem oBare_7 (a b c v : Int) (w : World) : Calls Tryd.prog 15 #[opV 7 a b c v] w fun e w' => e = .returned (opV 7 a 0 0 0) ∧ Below w.heap.size w w' := by
  go_enter Tryd.func15, Tryd.ntmps15
  go_wp2_with fail
  exact bodyPost_ret (v := opV 7 a 0 0 0) (by simp [results, Tryd.results15, go_sem]) rfl ⟨rfl, (by repeat (first | exact Below.refl _ _ | refine Below.setCell ?_ (by simp) _ | refine Below.alloc ?_ (by simp) _))⟩
theorem oBare_8 (a b c v : Int) (w : World) : Calls Tryd.prog 15 #[opV 8 a b c v] w fun e w' => e = .returned (opV 8 a b 0 0) ∧ Below w.heap.size w w' := by
  go_enter Tryd.func15, Tryd.ntmps15
  go_wp2_with fail
  exact bodyPost_ret (v := opV 8 a b 0 0) (by simp [results, Tryd.results15, go_sem]) rfl ⟨rfl, (by repeat (first | exact Below.refl _ _ | refine Below.setCell ?_ (by simp) _ | refine Below.alloc ?_ (by simp) _))⟩
theorem oBare_9 (a b c v : Int) (w : World) : Calls Tryd.prog 15 #[opV 9 a b c v] w fun e w' => e = .returned (opV 9 a 0 0 0) ∧ Below w.heap.size w w' := by
  go_enter Tryd.func15, Tryd.ntmps15
  go_wp2_with fail
  exact bodyPost_ret (v := opV 9 a 0 0 0) (by simp [results, Tryd.results15, go_sem]) rfl ⟨rfl, (by repeat (first | exact Below.refl _ _ | refine Below.setCell ?_ (by simp) _ | refine Below.alloc ?_ (by simp) _))⟩
theorem oBare_10 (a b c v : Int) (w : World) : Calls Tryd.prog 15 #[opV 10 a b c v] w fun e w' => e = .returned (opV 10 0 0 0 0) ∧ Below w.heap.size w w' := by
  go_enter Tryd.func15, Tryd.ntmps15
  go_wp2_with fail
  exact bodyPost_ret (v := opV 10 0 0 0 0) (by simp [results, Tryd.results15, go_sem]) rfl ⟨rfl, (by repeat (first | exact Below.refl _ _ | refine Below.setCell ?_ (by simp) _ | refine Below.alloc ?_ (by simp) _))⟩
theorem oBare_0 (k a b c v : Int) (w : World) (n1 : (k == 1) = false) (n2 : (k == 2) = false) (n3 : (k == 3) = false) (n4 : (k == 4) = false) (n5 : (k == 5) = false) (n6 : (k == 6) = false) (n7 : (k == 7) = false) (n8 : (k == 8) = false) (n9 : (k == 9) = false) (n10 : (k == 10) = false) : Calls Tryd.prog 15 #[opV k a b c v] w fun e w' => e = .returned (opV 0 0 0 0 0) ∧ Below w.heap.size w w' := by
  go_enter Tryd.func15, Tryd.ntmps15
  go_wp2_with fail
  exact bodyPost_ret (v := opV 0 0 0 0 0) (by simp [results, Tryd.results15, go_sem]) rfl ⟨rfl, (by repeat (first | exact Below.refl _ _ | refine Below.setCell ?_ (by simp) _ | refine Below.alloc ?_ (by simp) _))⟩
theorem rBare_1 (a b c v : Int) (w : World) : Calls Tryd.prog 16 #[opV 1 a b c v] w fun e w' => e = .returned (opV 1 a b c 0) ∧ Below w.heap.size w w' := by
  go_enter Tryd.func16, Tryd.ntmps16
  go_wp2_with fail
  exact bodyPost_ret (v := opV 1 a b c 0) (by simp [results, Tryd.results16, go_sem]) rfl ⟨rfl, (by repeat (first | exact Below.refl _ _ | refine Below.setCell ?_ (by simp) _ | refine Below.alloc ?_ (by simp) _))⟩
theorem rBare_2 (a b c v : Int) (w : World) : Calls Tryd.prog 16 #[opV 2 a b c v] w fun e w' => e = .returned (opV 2 a b c 0) ∧ Below w.heap.size w w' := by
  go_enter Tryd.func16, Tryd.ntmps16
  go_wp2_with fail
  exact bodyPost_ret (v := opV 2 a b c 0) (by simp [results, Tryd.results16, go_sem]) rfl ⟨rfl, (by repeat (first | exact Below.refl _ _ | refine Below.setCell ?_ (by simp) _ | refine Below.alloc ?_ (by simp) _))⟩
theorem rBare_3 (a b c v : Int) (w : World) : Calls Tryd.prog 16 #[opV 3 a b c v] w fun e w' => e = .returned (opV 3 a b c 0) ∧ Below w.heap.size w w' := by
  go_enter Tryd.func16, Tryd.ntmps16
  go_wp2_with fail
  exact bodyPost_ret (v := opV 3 a b c 0) (by simp [results, Tryd.results16, go_sem]) rfl ⟨rfl, (by repeat (first | exact Below.refl _ _ | refine Below.setCell ?_ (by simp) _ | refine Below.alloc ?_ (by simp) _))⟩
theorem rBare_4 (a b c v : Int) (w : World) : Calls Tryd.prog 16 #[opV 4 a b c v] w fun e w' => e = .returned (opV 4 a b 0 0) ∧ Below w.heap.size w w' := by
  go_enter Tryd.func16, Tryd.ntmps16
  go_wp2_with fail
  exact bodyPost_ret (v := opV 4 a b 0 0) (by simp [results, Tryd.results16, go_sem]) rfl ⟨rfl, (by repeat (first | exact Below.refl _ _ | refine Below.setCell ?_ (by simp) _ | refine Below.alloc ?_ (by simp) _))⟩
theorem rBare_5 (a b c v : Int) (w : World) : Calls Tryd.prog 16 #[opV 5 a b c v] w fun e w' => e = .returned (opV 5 a b 0 v) ∧ Below w.heap.size w w' := by
  go_enter Tryd.func16, Tryd.ntmps16
  go_wp2_with fail
  exact bodyPost_ret (v := opV 5 a b 0 v) (by simp [results, Tryd.results16, go_sem]) rfl ⟨rfl, (by repeat (first | exact Below.refl _ _ | refine Below.setCell ?_ (by simp) _ | refine Below.alloc ?_ (by simp) _))⟩
theorem rBare_6 (a b c v : Int) (w : World) : Calls Tryd.prog 16 #[opV 6 a b c v] w fun e w' => e = .returned (opV 6 a b 0 0) ∧ Below w.heap.size w w' := by
  go_enter Tryd.func16, Tryd.ntmps16
  go_wp2_with fail
  exact bodyPost_ret (v := opV 6 a b 0 0) (by simp [results, Tryd.results16, go_sem]) rfl ⟨rfl, (by repeat (first | exact Below.refl _ _ | refine Below.setCell ?_ (by simp) _ | refine Below.alloc ?_ (by simp) _))⟩
theorem rBare_7 (a b c v : Int) (w : World) : Calls Tryd.prog 16 #[opV 7 a b c v] w fun e w' => e = .returned (opV 7 a 0 0 0) ∧ Below w.heap.size w w' := by
  go_enter Tryd.func16, Tryd.ntmps16
  go_wp2_with fail
  exact bodyPost_ret (v := opV 7 a 0 0 0) (by simp [results, Tryd.results16, go_sem]) rfl ⟨rfl, (by repeat (first | exact Below.refl _ _ | refine Below.setCell ?_ (by simp) _ | refine Below.alloc ?_ (by simp) _))⟩
theorem rBare_8 (a b c v : Int) (w : World) : Calls Tryd.prog 16 #[opV 8 a b c v] w fun e w' => e = .returned (opV 8 a b 0 0) ∧ Below w.heap.size w w' := by
  go_enter Tryd.func16, Tryd.ntmps16
  go_wp2_with fail
  exact bodyPost_ret (v := opV 8 a b 0 0) (by simp [results, Tryd.results16, go_sem]) rfl ⟨rfl, (by repeat (first | exact Below.refl _ _ | refine Below.setCell ?_ (by simp) _ | refine Below.alloc ?_ (by simp) _))⟩
theorem rBare_9 (a b c v : Int) (w : World) : Calls Tryd.prog 16 #[opV 9 a b c v] w fun e w' => e = .returned (opV 9 a 0 0 0) ∧ Below w.heap.size w w' := by
  go_enter Tryd.func16, Tryd.ntmps16
  go_wp2_with fail
  exact bodyPost_ret (v := opV 9 a 0 0 0) (by simp [results, Tryd.results16, go_sem]) rfl ⟨rfl, (by repeat (first | exact Below.refl _ _ | refine Below.setCell ?_ (by simp) _ | refine Below.alloc ?_ (by simp) _))⟩
theorem rBare_10 (a b c v : Int) (w : World) : Calls Tryd.prog 16 #[opV 10 a b c v] w fun e w' => e = .returned (opV 10 0 0 0 0) ∧ Below w.heap.size w w' := by
  go_enter Tryd.func16, Tryd.ntmps16
  go_wp2_with fail
  exact bodyPost_ret (v := opV 10 0 0 0 0) (by simp [results, Tryd.results16, go_sem]) rfl ⟨rfl, (by repeat (first | exact Below.refl _ _ | refine Below.setCell ?_ (by simp) _ | refine Below.alloc ?_ (by simp) _))⟩
theorem rBare_0 (k a b c v : Int) (w : World) (n1 : (k == 1) = false) (n2 : (k == 2) = false) (n3 : (k == 3) = false) (n4 : (k == 4) = false) (n5 : (k == 5) = false) (n6 : (k == 6) = false) (n7 : (k == 7) = false) (n8 : (k == 8) = false) (n9 : (k == 9) = false) (n10 : (k == 10) = false) : Calls Tryd.prog 16 #[opV k a b c v] w fun e w' => e = .returned (opV 0 0 0 0 0) ∧ Below w.heap.size w w' := by
  go_enter Tryd.func16, Tryd.ntmps16
  go_wp2_with fail
  exact bodyPost_ret (v := opV 0 0 0 0 0) (by simp [results, Tryd.results16, go_sem]) rfl ⟨rfl, (by repeat (first | exact Below.refl _ _ | refine Below.setCell ?_ (by simp) _ | refine Below.alloc ?_ (by simp) _))⟩
theorem oBare_any (k a b c v : Int) (w : World) : Calls Tryd.prog 15 #[opV k a b c v] w fun e w' => e = .returned (bareOp k a b c v) ∧ Below w.heap.size w w' := by
  by_cases h1 : k = 1
  · subst h1; exact oBare_1 a b c v w
  by_cases h2 : k = 2
  · subst h2; exact oBare_2 a b c v w
  by_cases h3 : k = 3
  · subst h3; exact oBare_3 a b c v w
  by_cases h4 : k = 4
  · subst h4; exact oBare_4 a b c v w
  by_cases h5 : k = 5
  · subst h5; exact oBare_5 a b c v w
  by_cases h6 : k = 6
  · subst h6; exact oBare_6 a b c v w
  by_cases h7 : k = 7
  · subst h7; exact oBare_7 a b c v w
  by_cases h8 : k = 8
  · subst h8; exact oBare_8 a b c v w
  by_cases h9 : k = 9
  · subst h9; exact oBare_9 a b c v w
  by_cases h10 : k = 10
  · subst h10; exact oBare_10 a b c v w
  have hk : opK k = false := decide_eq_false (by omega)
  have e : bareOp k a b c v = opV 0 0 0 0 0 := by
    unfold bareOp bareK bareA bareB bareC bareV
    rw [hk, if_neg (by omega : ¬ (k = 1 ∨ k = 2 ∨ k = 3)), if_neg h5]
    rfl
  rw [e]
  exact oBare_0 k a b c v w (by simpa using h1) (by simpa using h2) (by simpa using h3) (by simpa using h4) (by simpa using h5) (by simpa using h6) (by simpa using h7) (by simpa using h8) (by simpa using h9) (by simpa using h10)
theorem rBare_any (k a b c v : Int) (w : World) : Calls Tryd.prog 16 #[opV k a b c v] w fun e w' => e = .returned (bareOp k a b c v) ∧ Below w.heap.size w w' := by
  by_cases h1 : k = 1
  · subst h1; exact rBare_1 a b c v w
  by_cases h2 : k = 2
  · subst h2; exact rBare_2 a b c v w
  by_cases h3 : k = 3
  · subst h3; exact rBare_3 a b c v w
  by_cases h4 : k = 4
  · subst h4; exact rBare_4 a b c v w
  by_cases h5 : k = 5
  · subst h5; exact rBare_5 a b c v w
  by_cases h6 : k = 6
  · subst h6; exact rBare_6 a b c v w
  by_cases h7 : k = 7
  · subst h7; exact rBare_7 a b c v w
  by_cases h8 : k = 8
  · subst h8; exact rBare_8 a b c v w
  by_cases h9 : k = 9
  · subst h9; exact rBare_9 a b c v w
  by_cases h10 : k = 10
  · subst h10; exact rBare_10 a b c v w
  have hk : opK k = false := decide_eq_false (by omega)
  have e : bareOp k a b c v = opV 0 0 0 0 0 := by
    unfold bareOp bareK bareA bareB bareC bareV
    rw [hk, if_neg (by omega : ¬ (k = 1 ∨ k = 2 ∨ k = 3)), if_neg h5]
    rfl
  rw [e]
  exact rBare_0 k a b c v w (by simpa using h1) (by simpa using h2) (by simpa using h3) (by simpa using h4) (by simpa using h5) (by simpa using h6) (by simpa using h7) (by simpa using h8) (by simpa using h9) (by simpa using h10)
theorem oSlots_1 (a b c v : Int) (w : World) : Calls Tryd.prog 18 #[opV 1 a b c v] w (NewRow w [a]) := by
  go_enter Tryd.func18, Tryd.ntmps18
  go_wp2_with fail
  go_ret
  exact ⟨_, _, rfl, row_alloc _ [a] _ (by simp) rfl, fun b off h => (by cases h; simp), (by repeat (first | exact Below.refl _ _ | refine Below.setCell ?_ (by simp) _ | refine Below.alloc ?_ (by simp) _))⟩
theorem oSlots_2 (a b c v : Int) (w : World) : Calls Tryd.prog 18 #[opV 2 a b c v] w (NewRow w [a, b]) := by
  go_enter Tryd.func18, Tryd.ntmps18
  go_wp2_with fail
  go_ret
  exact ⟨_, _, rfl, row_alloc _ [a, b] _ (by simp) rfl, fun b off h => (by cases h; simp), (by repeat (first | exact Below.refl _ _ | refine Below.setCell ?_ (by simp) _ | refine Below.alloc ?_ (by simp) _))⟩
theorem oSlots_3 (a b c v : Int) (w : World) : Calls Tryd.prog 18 #[opV 3 a b c v] w (NewRow w [a, c]) := by
  go_enter Tryd.func18, Tryd.ntmps18
  go_wp2_with fail
  go_ret
  exact ⟨_, _, rfl, row_alloc _ [a, c] _ (by simp) rfl, fun b off h => (by cases h; simp), (by repeat (first | exact Below.refl _ _ | refine Below.setCell ?_ (by simp) _ | refine Below.alloc ?_ (by simp) _))⟩
theorem oSlots_4 (a b c v : Int) (w : World) : Calls Tryd.prog 18 #[opV 4 a b c v] w (NewRow w [a]) := by
  go_enter Tryd.func18, Tryd.ntmps18
  go_wp2_with fail
  go_ret
  exact ⟨_, _, rfl, row_alloc _ [a] _ (by simp) rfl, fun b off h => (by cases h; simp), (by repeat (first | exact Below.refl _ _ | refine Below.setCell ?_ (by simp) _ | refine Below.alloc ?_ (by simp) _))⟩
theorem oSlots_5 (a b c v : Int) (w : World) : Calls Tryd.prog 18 #[opV 5 a b c v] w (NewRow w [a]) := by
  go_enter Tryd.func18, Tryd.ntmps18
  go_wp2_with fail
  go_ret
  exact ⟨_, _, rfl, row_alloc _ [a] _ (by simp) rfl, fun b off h => (by cases h; simp), (by repeat (first | exact Below.refl _ _ | refine Below.setCell ?_ (by simp) _ | refine Below.alloc ?_ (by simp) _))⟩
theorem oSlots_6 (a b c v : Int) (w : World) : Calls Tryd.prog 18 #[opV 6 a b c v] w (NewRow w [a, b]) := by
  go_enter Tryd.func18, Tryd.ntmps18
  go_wp2_with fail
  go_ret
  exact ⟨_, _, rfl, row_alloc _ [a, b] _ (by simp) rfl, fun b off h => (by cases h; simp), (by repeat (first | exact Below.refl _ _ | refine Below.setCell ?_ (by simp) _ | refine Below.alloc ?_ (by simp) _))⟩
theorem oSlots_7 (a b c v : Int) (w : World) : Calls Tryd.prog 18 #[opV 7 a b c v] w (NewRow w [a]) := by
  go_enter Tryd.func18, Tryd.ntmps18
  go_wp2_with fail
  go_ret
  exact ⟨_, _, rfl, row_alloc _ [a] _ (by simp) rfl, fun b off h => (by cases h; simp), (by repeat (first | exact Below.refl _ _ | refine Below.setCell ?_ (by simp) _ | refine Below.alloc ?_ (by simp) _))⟩
theorem oSlots_8 (a b c v : Int) (w : World) : Calls Tryd.prog 18 #[opV 8 a b c v] w (NewRow w [a, b]) := by
  go_enter Tryd.func18, Tryd.ntmps18
  go_wp2_with fail
  go_ret
  exact ⟨_, _, rfl, row_alloc _ [a, b] _ (by simp) rfl, fun b off h => (by cases h; simp), (by repeat (first | exact Below.refl _ _ | refine Below.setCell ?_ (by simp) _ | refine Below.alloc ?_ (by simp) _))⟩
theorem oSlots_9 (a b c v : Int) (w : World) : Calls Tryd.prog 18 #[opV 9 a b c v] w (NewRow w [a]) := by
  go_enter Tryd.func18, Tryd.ntmps18
  go_wp2_with fail
  go_ret
  exact ⟨_, _, rfl, row_alloc _ [a] _ (by simp) rfl, fun b off h => (by cases h; simp), (by repeat (first | exact Below.refl _ _ | refine Below.setCell ?_ (by simp) _ | refine Below.alloc ?_ (by simp) _))⟩
theorem oSlots_10 (a b c v : Int) (w : World) : Calls Tryd.prog 18 #[opV 10 a b c v] w (NewRow w []) := by
  go_enter Tryd.func18, Tryd.ntmps18
  go_wp2_with fail
  go_ret
  exact ⟨none, 0, rfl, Row.nil _ _ _, fun _ _ h => (by cases h), (by repeat (first | exact Below.refl _ _ | refine Below.setCell ?_ (by simp) _ | refine Below.alloc ?_ (by simp) _))⟩
theorem oSlots_0 (k a b c v : Int) (w : World) (n1 : (k == 1) = false) (n2 : (k == 2) = false) (n3 : (k == 3) = false) (n4 : (k == 4) = false) (n5 : (k == 5) = false) (n6 : (k == 6) = false) (n7 : (k == 7) = false) (n8 : (k == 8) = false) (n9 : (k == 9) = false) (n10 : (k == 10) = false) : Calls Tryd.prog 18 #[opV k a b c v] w (NewRow w []) := by
  go_enter Tryd.func18, Tryd.ntmps18
  go_wp2_with fail
  go_ret
  exact ⟨none, 0, rfl, Row.nil _ _ _, fun _ _ h => (by cases h), (by repeat (first | exact Below.refl _ _ | refine Below.setCell ?_ (by simp) _ | refine Below.alloc ?_ (by simp) _))⟩
theorem rSlots_1 (a b c v : Int) (w : World) : Calls Tryd.prog 19 #[opV 1 a b c v] w (NewRow w [a]) := by
  go_enter Tryd.func19, Tryd.ntmps19
  go_wp2_with fail
  go_ret
  exact ⟨_, _, rfl, row_alloc _ [a] _ (by simp) rfl, fun b off h => (by cases h; simp), (by repeat (first | exact Below.refl _ _ | refine Below.setCell ?_ (by simp) _ | refine Below.alloc ?_ (by simp) _))⟩
theorem rSlots_2 (a b c v : Int) (w : World) : Calls Tryd.prog 19 #[opV 2 a b c v] w (NewRow w [a, b]) := by
  go_enter Tryd.func19, Tryd.ntmps19
  go_wp2_with fail
  go_ret
  exact ⟨_, _, rfl, row_alloc _ [a, b] _ (by simp) rfl, fun b off h => (by cases h; simp), (by repeat (first | exact Below.refl _ _ | refine Below.setCell ?_ (by simp) _ | refine Below.alloc ?_ (by simp) _))⟩
theorem rSlots_3 (a b c v : Int) (w : World) : Calls Tryd.prog 19 #[opV 3 a b c v] w (NewRow w [a, c]) := by
  go_enter Tryd.func19, Tryd.ntmps19
  go_wp2_with fail
  go_ret
  exact ⟨_, _, rfl, row_alloc _ [a, c] _ (by simp) rfl, fun b off h => (by cases h; simp), (by repeat (first | exact Below.refl _ _ | refine Below.setCell ?_ (by simp) _ | refine Below.alloc ?_ (by simp) _))⟩
theorem rSlots_4 (a b c v : Int) (w : World) : Calls Tryd.prog 19 #[opV 4 a b c v] w (NewRow w [a]) := by
  go_enter Tryd.func19, Tryd.ntmps19
  go_wp2_with fail
  go_ret
  exact ⟨_, _, rfl, row_alloc _ [a] _ (by simp) rfl, fun b off h => (by cases h; simp), (by repeat (first | exact Below.refl _ _ | refine Below.setCell ?_ (by simp) _ | refine Below.alloc ?_ (by simp) _))⟩
theorem rSlots_5 (a b c v : Int) (w : World) : Calls Tryd.prog 19 #[opV 5 a b c v] w (NewRow w [a]) := by
  go_enter Tryd.func19, Tryd.ntmps19
  go_wp2_with fail
  go_ret
  exact ⟨_, _, rfl, row_alloc _ [a] _ (by simp) rfl, fun b off h => (by cases h; simp), (by repeat (first | exact Below.refl _ _ | refine Below.setCell ?_ (by simp) _ | refine Below.alloc ?_ (by simp) _))⟩
theorem rSlots_6 (a b c v : Int) (w : World) : Calls Tryd.prog 19 #[opV 6 a b c v] w (NewRow w [a, b]) := by
  go_enter Tryd.func19, Tryd.ntmps19
  go_wp2_with fail
  go_ret
  exact ⟨_, _, rfl, row_alloc _ [a, b] _ (by simp) rfl, fun b off h => (by cases h; simp), (by repeat (first | exact Below.refl _ _ | refine Below.setCell ?_ (by simp) _ | refine Below.alloc ?_ (by simp) _))⟩
theorem rSlots_7 (a b c v : Int) (w : World) : Calls Tryd.prog 19 #[opV 7 a b c v] w (NewRow w [a]) := by
  go_enter Tryd.func19, Tryd.ntmps19
  go_wp2_with fail
  go_ret
  exact ⟨_, _, rfl, row_alloc _ [a] _ (by simp) rfl, fun b off h => (by cases h; simp), (by repeat (first | exact Below.refl _ _ | refine Below.setCell ?_ (by simp) _ | refine Below.alloc ?_ (by simp) _))⟩
theorem rSlots_8 (a b c v : Int) (w : World) : Calls Tryd.prog 19 #[opV 8 a b c v] w (NewRow w [a, b]) := by
  go_enter Tryd.func19, Tryd.ntmps19
  go_wp2_with fail
  go_ret
  exact ⟨_, _, rfl, row_alloc _ [a, b] _ (by simp) rfl, fun b off h => (by cases h; simp), (by repeat (first | exact Below.refl _ _ | refine Below.setCell ?_ (by simp) _ | refine Below.alloc ?_ (by simp) _))⟩
theorem rSlots_9 (a b c v : Int) (w : World) : Calls Tryd.prog 19 #[opV 9 a b c v] w (NewRow w [a]) := by
  go_enter Tryd.func19, Tryd.ntmps19
  go_wp2_with fail
  go_ret
  exact ⟨_, _, rfl, row_alloc _ [a] _ (by simp) rfl, fun b off h => (by cases h; simp), (by repeat (first | exact Below.refl _ _ | refine Below.setCell ?_ (by simp) _ | refine Below.alloc ?_ (by simp) _))⟩
theorem rSlots_10 (a b c v : Int) (w : World) : Calls Tryd.prog 19 #[opV 10 a b c v] w (NewRow w []) := by
  go_enter Tryd.func19, Tryd.ntmps19
  go_wp2_with fail
  go_ret
  exact ⟨none, 0, rfl, Row.nil _ _ _, fun _ _ h => (by cases h), (by repeat (first | exact Below.refl _ _ | refine Below.setCell ?_ (by simp) _ | refine Below.alloc ?_ (by simp) _))⟩
theorem rSlots_0 (k a b c v : Int) (w : World) (n1 : (k == 1) = false) (n2 : (k == 2) = false) (n3 : (k == 3) = false) (n4 : (k == 4) = false) (n5 : (k == 5) = false) (n6 : (k == 6) = false) (n7 : (k == 7) = false) (n8 : (k == 8) = false) (n9 : (k == 9) = false) (n10 : (k == 10) = false) : Calls Tryd.prog 19 #[opV k a b c v] w (NewRow w []) := by
  go_enter Tryd.func19, Tryd.ntmps19
  go_wp2_with fail
  go_ret
  exact ⟨none, 0, rfl, Row.nil _ _ _, fun _ _ h => (by cases h), (by repeat (first | exact Below.refl _ _ | refine Below.setCell ?_ (by simp) _ | refine Below.alloc ?_ (by simp) _))⟩
theorem oSlots_any (k a b c v : Int) (w : World) : Calls Tryd.prog 18 #[opV k a b c v] w (NewRow w (slotsL k a b c)) := by
  by_cases h1 : k = 1
  · subst h1; exact oSlots_1 a b c v w
  by_cases h2 : k = 2
  · subst h2; exact oSlots_2 a b c v w
  by_cases h3 : k = 3
  · subst h3; exact oSlots_3 a b c v w
  by_cases h4 : k = 4
  · subst h4; exact oSlots_4 a b c v w
  by_cases h5 : k = 5
  · subst h5; exact oSlots_5 a b c v w
  by_cases h6 : k = 6
  · subst h6; exact oSlots_6 a b c v w
  by_cases h7 : k = 7
  · subst h7; exact oSlots_7 a b c v w
  by_cases h8 : k = 8
  · subst h8; exact oSlots_8 a b c v w
  by_cases h9 : k = 9
  · subst h9; exact oSlots_9 a b c v w
  by_cases h10 : k = 10
  · subst h10; exact oSlots_10 a b c v w
  have hk : opK k = false := decide_eq_false (by omega)
  have e : slotsL k a b c = [] := by
    unfold slotsL
    rw [hk, if_neg (by omega : ¬ (k = 2 ∨ k = 6 ∨ k = 8)), if_neg h3]
    rfl
  rw [e]
  exact oSlots_0 k a b c v w (by simpa using h1) (by simpa using h2) (by simpa using h3) (by simpa using h4) (by simpa using h5) (by simpa using h6) (by simpa using h7) (by simpa using h8) (by simpa using h9) (by simpa using h10)
theorem rSlots_any (k a b c v : Int) (w : World) : Calls Tryd.prog 19 #[opV k a b c v] w (NewRow w (slotsL k a b c)) := by
  by_cases h1 : k = 1
  · subst h1; exact rSlots_1 a b c v w
  by_cases h2 : k = 2
  · subst h2; exact rSlots_2 a b c v w
  by_cases h3 : k = 3
  · subst h3; exact rSlots_3 a b c v w
  by_cases h4 : k = 4
  · subst h4; exact rSlots_4 a b c v w
  by_cases h5 : k = 5
  · subst h5; exact rSlots_5 a b c v w
  by_cases h6 : k = 6
  · subst h6; exact rSlots_6 a b c v w
  by_cases h7 : k = 7
  · subst h7; exact rSlots_7 a b c v w
  by_cases h8 : k = 8
  · subst h8; exact rSlots_8 a b c v w
  by_cases h9 : k = 9
  · subst h9; exact rSlots_9 a b c v w
  by_cases h10 : k = 10
  · subst h10; exact rSlots_10 a b c v w
  have hk : opK k = false := decide_eq_false (by omega)
  have e : slotsL k a b c = [] := by
    unfold slotsL
    rw [hk, if_neg (by omega : ¬ (k = 2 ∨ k = 6 ∨ k = 8)), if_neg h3]
    rfl
  rw [e]
  exact rSlots_0 k a b c v w (by simpa using h1) (by simpa using h2) (by simpa using h3) (by simpa using h4) (by simpa using h5) (by simpa using h6) (by simpa using h7) (by simpa using h8) (by simpa using h9) (by simpa using h10)
theorem oNeeds_no (N W R K k a b c v : Int) (w : World) (hk : (k == 1) = false) : Calls Tryd.prog 20 #[.agg #[.int .i64 N, .int .i64 W, .int .i64 R, .int .i64 K], opV k a b c v] w fun e w' => e = .returned (.int .i64 0) ∧ Below w.heap.size w w' := by
  have hk' : (k != 1) = true := by rw [bne, hk]; rfl
  go_enter Tryd.func20, Tryd.ntmps20
  go_wp2_with fail
  go_ret
  exact ⟨rfl, (by repeat (first | exact Below.refl _ _ | refine Below.setCell ?_ (by simp) _ | refine Below.alloc ?_ (by simp) _))⟩
theorem oNeeds_yes (N W R K a b c v : Int) (w : World) : Calls Tryd.prog 20 #[.agg #[.int .i64 N, .int .i64 W, .int .i64 R, .int .i64 K], opV 1 a b c v] w fun e w' => e = .returned (.int .i64 (blocksV W b c)) ∧ Below w.heap.size w w' := by
  go_enter Tryd.func20, Tryd.ntmps20
  go_wp2_with fail
  refine (shBlocks_any W b c _).mono ?_
  rintro e w2 ⟨rfl, hb⟩
  have HB := Lib.hid ((((Below.refl w.heap.size w).alloc (by simp) _).alloc (by simp) _).trans (hb.mono (by simp; omega)))
  clear hb
  go_wp2_with fail
  go_ret
  exact ⟨rfl, HB.out⟩
theorem oNeeds_any (N W R K k a b c v : Int) (w : World) : Calls Tryd.prog 20 #[.agg #[.int .i64 N, .int .i64 W, .int .i64 R, .int .i64 K], opV k a b c v] w fun e w' => e = .returned (.int .i64 (needsV W k b c)) ∧ Below w.heap.size w w' := by
  unfold needsV
  by_cases h : k = 1
  · subst h; rw [if_pos rfl]; exact oNeeds_yes N W R K a b c v w
  · rw [if_neg h]; exact oNeeds_no N W R K k a b c v w (by simpa using h)
theorem rNeeds_no (N W R K k a b c v : Int) (w : World) (hk : (k == 1) = false) : Calls Tryd.prog 21 #[.agg #[.int .i64 N, .int .i64 W, .int .i64 R, .int .i64 K], opV k a b c v] w fun e w' => e = .returned (.int .i64 0) ∧ Below w.heap.size w w' := by
  have hk' : (k != 1) = true := by rw [bne, hk]; rfl
  go_enter Tryd.func21, Tryd.ntmps21
  go_wp2_with fail
  go_ret
  exact ⟨rfl, (by repeat (first | exact Below.refl _ _ | refine Below.setCell ?_ (by simp) _ | refine Below.alloc ?_ (by simp) _))⟩
theorem rNeeds_yes (N W R K a b c v : Int) (w : World) : Calls Tryd.prog 21 #[.agg #[.int .i64 N, .int .i64 W, .int .i64 R, .int .i64 K], opV 1 a b c v] w fun e w' => e = .returned (.int .i64 (blocksV W b c)) ∧ Below w.heap.size w w' := by
  cases he : (sizeE W b c != 0) with
  | true =>
    have e0 : blocksV W b c = 0 := blocksV_no (by simpa using he)
    go_enter Tryd.func21, Tryd.ntmps21
    go_wp2_with fail
    refine (rsBlocks_any W b c _).mono ?_
    rintro e w2 ⟨rfl, rfl⟩
    rw [e0]
    go_wp2_with fail
    go_ret
    exact ⟨by rw [e0]; rfl, (by repeat (first | exact Below.refl _ _ | refine Below.setCell ?_ (by simp) _ | refine Below.alloc ?_ (by simp) _))⟩
  | false =>
    go_enter Tryd.func21, Tryd.ntmps21
    go_wp2_with fail
    refine (rsBlocks_any W b c _).mono ?_
    rintro e w2 ⟨rfl, rfl⟩
    go_wp2_with fail
    go_ret
    exact ⟨rfl, (by repeat (first | exact Below.refl _ _ | refine Below.setCell ?_ (by simp) _ | refine Below.alloc ?_ (by simp) _))⟩
theorem rNeeds_any (N W R K k a b c v : Int) (w : World) : Calls Tryd.prog 21 #[.agg #[.int .i64 N, .int .i64 W, .int .i64 R, .int .i64 K], opV k a b c v] w fun e w' => e = .returned (.int .i64 (needsV W k b c)) ∧ Below w.heap.size w w' := by
  unfold needsV
  by_cases h : k = 1
  · subst h; rw [if_pos rfl]; exact rNeeds_yes N W R K a b c v w
  · rw [if_neg h]; exact rNeeds_no N W R K k a b c v w (by simpa using h)
end Go.Proofs.YtlgkgijgnmancaaDoor.Pk
