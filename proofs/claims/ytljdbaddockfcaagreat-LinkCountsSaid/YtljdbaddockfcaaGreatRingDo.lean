/-
  Layer 9: the law's act, case by case.
-/
import Derived.Test.YtljdbaddockfcaaGreatChainFnEtc
import Derived.Deep.RegionHeld3
import Derived.BigQuiet
namespace Go.Proofs.YtljdbaddockfcaaGreat.Pk
open Go.RowKit
set_option linter.unusedVariables false
set_option linter.unusedSimpArgs false

theorem filter_split {l1 l2 : List Nat} {b : Nat} (h : (l1 ++ b :: l2).Nodup) : (l1 ++ b :: l2).filter (fun x => x != b) = l1 ++ l2 := by
  rw [List.nodup_append] at h
  obtain ⟨n1, n2, n3⟩ := h
  obtain ⟨n4, n5⟩ := List.nodup_cons.1 n2
  rw [List.filter_append, List.filter_cons_of_neg (by simp), List.filter_eq_self.2 (fun x hx => by simp; exact fun e => n3 x hx b (by simp) e), List.filter_eq_self.2 (fun x hx => by simp; exact fun e => n4 (by rw [← e]; exact hx))]
end Go.Proofs.YtljdbaddockfcaaGreat.Pk
