/-
  The document's Same: rows of words that are alike.
-/
import Derived.Test.YtcknmholembjaaaProg
import Derived.Test.YtcknmholembjaaaMem
import Derived.IntWalk
namespace Go.Proofs.Ytcknmholembjaaa.Pk
open Go.RowKit
set_option linter.unusedVariables false
set_option linter.unusedSimpArgs false

set_option maxHeartbeats 600000 in
theorem same_yes (zs : List Int) (a b : Option Addr) (n ca cb : Nat) (w : World) (hn : zs.length = n) (ha : Row w .u32 a zs) (hb : Row w .u32 b zs) (hm : n ≤ maxLen) :
    Calls Try.prog 15 #[.slice a n ca, .slice b n cb] w fun e w' => e = .returned (.bool true) ∧ Drw w w' := by
  unfold maxLen at hm
  have HN := Lib.hid hn
  have HA := Lib.hid ha
  have HB := Lib.hid hb
  clear hn ha hb
  go_enter Try.func15, Try.ntmps15
  go_wp2
  go_loopw [5] (fun i wr => ∃ k : Nat, k ≤ n ∧ i = .int .i64 k ∧ Drw w wr) (fun i _ => n - (intOf i).toNat)
  case atStart => exact ⟨0, Nat.zero_le _, rfl, Drw.refl _⟩
  case round =>
    obtain ⟨k, hk, rfl, hd⟩ := hrel
    by_cases hlt : k < n
    · obtain ⟨b1, o1, rfl, hb1, hc1⟩ := (HA.out.drw hd) k (by rw [HN.out]; exact hlt)
      obtain ⟨b2, o2, rfl, hb2, hc2⟩ := (HB.out.drw hd) k (by rw [HN.out]; exact hlt)
      have i0 : (0 : Int) ≤ (k : Int) := by omega
      have i1 : (k : Int) < (n : Int) := by omega
      have HD := Lib.hid hd
      clear hd
      go_wp2_with fail
      go_quiet (fail)
      have hd : Drw w (wr.drewN nq) := HD.out.step _
      clear HD
      generalize wr.drewN nq = w2 at *
      go_wp2
      go_roundw
      case rel => exact ⟨k + 1, by omega, by go_num, hd⟩
      case measure => simp [intOf]; omega
    · go_wp2
      go_ret
      exact ⟨rfl, hd⟩

theorem same_yesN (zs : List Int) (a b : Option Addr) (n n2 ca cb : Nat) (w : World) (hn : zs.length = n) (ha : Row w .u32 a zs) (hb : Row w .u32 b zs) (hm : n ≤ maxLen) (hn2 : n2 = zs.length := by rfl) :
    Calls Try.prog 15 #[.slice a n2 ca, .slice b n cb] w fun e w' => e = .returned (.bool true) ∧ Drw w w' := by
  subst hn2
  subst hn
  exact same_yes zs a b zs.length ca cb w rfl ha hb hm

end Go.Proofs.Ytcknmholembjaaa.Pk
