/-
  Layer 10: the chapter's example (of a package pool that does what it must); the document's row of all blocks.
-/
import Derived.Test.YtljdbaddockfcaaGreatPoolDo
namespace Go.Proofs.YtljdbaddockfcaaGreat.Pk
open Go.RowKit
set_option linter.unusedVariables false
set_option linter.unusedSimpArgs false

set_option maxHeartbeats 400000 in
theorem refOpen_any (n : Nat) (w : World) (hn : n ≤ 10000) :
    Calls Tryz.prog 183 #[.int .i64 (n : Int)] w (NewNats (List.range n) w) := by
  obtain ⟨i0, hi, hz0, hz1, hz2⟩ := info_parts infoInt
  go_enter Tryz.func183, Tryz.ntmps183
  go_wp2
  go_loopw [3, 4] (fun v i wr => ∃ k : Nat, k ≤ n ∧ i = .int .i64 k ∧ Gath w v k (ints (List.range k)) wr) (fun _ i _ => n - (intOf i).toNat)
  case atStart => exact ⟨0, Nat.zero_le _, rfl, World.ownsRow_nil _ _ _ _, Below.refl _ _⟩
  case round =>
    obtain ⟨k, hk, rfl, hown, hbel⟩ := hrel
    have hsz := hbel.size
    by_cases hlt : k < n
    · have HT : Hid (ints (List.range (k + 1)) = ints (List.range k) ++ [(k : Int)]) := Lib.hid (by rw [List.range_succ]; simp [ints])
      go_wp2_with (at_builtin; refine wpList_append_own _ rfl _ _ 27 rfl w.heap.size 3 i0 (.int .i64 0) 1 8 Tryz.underlying27 hi hz0 hz1 hz2 rfl (by decide) _ _ _ rfl (hown.alloc _) ⟨wr.heap.size, 0, none⟩ 1 1 [.int .i64 (k : Int)] rfl rfl ?c1 ?c2 ?c3 ?c4 ?c5 ?c6)
      case c1 => exact cell_one_new wr _ _
      case c2 => intro u hu; simp at hu; subst hu; rfl
      case c3 => unfold maxLen; omega
      case c4 => omega
      case c5 => simp; omega
      case c6 =>
        intro v' w1 hown' hgrow _
        have hbel1 : Below w.heap.size w w1 := (hbel.alloc hsz _).grown hgrow (by simp; omega) (owns_block hown)
        have HG : Hid (Gath w v' (k + 1) (ints (List.range (k + 1))) w1) := Lib.hid (by
          refine ⟨?_, hbel1⟩
          rw [HT.out]
          simpa using hown')
        clear hown' hgrow hbel1 hown hbel
        go_wp2
        go_roundw
        case rel => exact ⟨k + 1, by omega, by go_num, HG.out⟩
        case measure => simp [intOf]; omega
    · have e : k = n := by omega
      have HO : Hid (NewNats (List.range n) w (.returned u3) wr) := Lib.hid (by
        have h1 : Gath w u3 k (ints (List.range k)) wr := ⟨hown, hbel⟩
        have := (NewRow.mk (by simp [ints]) h1).nats rfl
        rwa [e] at this)
      clear e hown hbel
      go_wp2
      go_ret
      exact HO.out

end Go.Proofs.YtljdbaddockfcaaGreat.Pk
