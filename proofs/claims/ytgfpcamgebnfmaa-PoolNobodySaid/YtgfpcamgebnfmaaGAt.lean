/-
  A ground's calls at places that there are: registers, root slots and words whose numbers are known to be right.
-/
import Derived.Test.YtgfpcamgebnfmaaGround2
import Derived.BigQuiet
namespace Go.Proofs.Ytgfpcamgebnfmaa.Pk
open Go.RowKit
set_option linter.unusedVariables false
set_option linter.unusedSimpArgs false

/-- Where a block's word lies. -/
def adr (c : Cf) (b v : Nat) : Nat := 24 + c.R + b * c.W + v
theorem adr_lt {c : Cf} {b v : Nat} (hb : b < c.N) (hv : v < c.W) : adr c b v < c.size := wordA_lt' hb hv
theorem adr_word {c : Cf} {b v : Nat} (hb : b < c.N) (hv : v < c.W) : wordA c (b : Int) (v : Int) = some (adr c b v) := by
  unfold wordA
  rw [bel_mk hb, bel_mk hv]
  rfl
theorem adr_inj {c : Cf} {a b u v : Nat} (hu : u < c.W) (hv : v < c.W) (h : adr c a u = adr c b v) : a = b ∧ u = v := by
  unfold adr at h
  have h2 : a * c.W + u = b * c.W + v := by omega
  have e1 : (a * c.W + u) / c.W = a := by rw [Nat.add_comm, Nat.add_mul_div_right _ _ (by omega), Nat.div_eq_of_lt hu]; omega
  have e2 : (b * c.W + v) / c.W = b := by rw [Nat.add_comm, Nat.add_mul_div_right _ _ (by omega), Nat.div_eq_of_lt hv]; omega
  have : a = b := by rw [← e1, ← e2, h2]
  subst this
  exact ⟨rfl, by omega⟩
theorem adr_reg {c : Cf} {b v r : Nat} (hr : r < 24) : ¬ r = adr c b v := by unfold adr; omega
theorem adr_reg' {c : Cf} {b v r : Nat} (hr : r < 24) : ¬ adr c b v = r := by unfold adr; omega
theorem reg_is {r : Nat} (h : r < 24) : regA (r : Int) = some r := by
  unfold regA; rw [bel_mk h]; simp

/-- A register that there is. -/
theorem regR (p : Pl) (c : Cf) (s : St) (r : Nat) (x y : Int) (w : World) (hG : G w p c s) (hr : r < 24) (hx : x = (r : Int)) (hy : nth s.zs r = y) :
    Calls Try.prog 45 #[.pointer (some ⟨p.a, 0, none⟩), .int .i64 x] w (GP w p c s.got (.int .i64 y)) := by
  subst hx hy
  have h := reg_any p c s (r : Int) w hG
  rw [reg_is hr] at h
  exact h
theorem setregR (p : Pl) (c : Cf) (s : St) (r : Nat) (x y : Int) (w : World) (hG : G w p c s) (hr : r < 24) (hx : x = (r : Int)) (h0 : 0 ≤ y) (h1 : y ≤ 4294967295) :
    Calls Try.prog 58 #[.pointer (some ⟨p.a, 0, none⟩), .int .i64 x, .int .i64 y] w (GP w p c (s.set r y) (.bool true)) := by
  subst hx
  have h := setreg_any p c s (r : Int) y w hG
  rw [reg_is hr] at h
  have e : s.putN (some r) y = s.set r y := by unfold St.putN; rw [if_pos (fitsB_mk h0 h1)]; rfl
  have e2 : putB (some r) y = true := by unfold putB; rw [fitsB_mk h0 h1]; rfl
  rw [e, e2] at h
  exact h
/-- A word that there is. -/
theorem wordW (p : Pl) (c : Cf) (s : St) (b v : Nat) (x z y : Int) (w : World) (hG : G w p c s) (hb : b < c.N) (hv : v < c.W) (hx : x = (b : Int)) (hz : z = (v : Int)) (hy : nth s.zs (adr c b v) = y) :
    Calls Try.prog 32 #[.pointer (some ⟨p.a, 0, none⟩), .int .i64 x, .int .i64 z] w (GP w p c s.got (.int .u32 y)) := by
  subst hx hz hy
  have h := word_any p c s (b : Int) (v : Int) w hG
  rw [adr_word hb hv] at h
  exact h
theorem setwordW (p : Pl) (c : Cf) (s : St) (b v : Nat) (x z y : Int) (w : World) (hG : G w p c s) (hb : b < c.N) (hv : v < c.W) (hx : x = (b : Int)) (hz : z = (v : Int)) (h0 : 0 ≤ y) (h1 : y ≤ 4294967295) :
    Calls Try.prog 17 #[.pointer (some ⟨p.a, 0, none⟩), .int .i64 x, .int .i64 z, .int .u32 y] w (GP w p c (s.set (adr c b v) y) (.bool true)) := by
  subst hx hz
  have h := setword_any p c s (b : Int) (v : Int) y w hG h0 h1
  rw [adr_word hb hv] at h
  exact h
theorem seewordW (p : Pl) (c : Cf) (s : St) (b v : Nat) (x z y : Int) (w : World) (hG : G w p c s) (hb : b < c.N) (hv : v < c.W) (hx : x = (b : Int)) (hz : z = (v : Int)) (hy : nth s.zs (adr c b v) = y) :
    Calls Try.prog 28 #[.pointer (some ⟨p.a, 0, none⟩), .int .i64 x, .int .i64 z] w fun e w' => e = .returned (.int .u32 y) ∧ Drw w w' := by
  subst hx hz hy
  have h := seeword_any p c s (b : Int) (v : Int) w hG
  rw [adr_word hb hv] at h
  exact h
theorem seeregR (p : Pl) (c : Cf) (s : St) (r : Nat) (x y : Int) (w : World) (hG : G w p c s) (hr : r < 24) (hx : x = (r : Int)) (hy : nth s.zs r = y) :
    Calls Try.prog 52 #[.pointer (some ⟨p.a, 0, none⟩), .int .i64 x] w fun e w' => e = .returned (.int .i64 y) ∧ w = w' := by
  subst hx hy
  have h := seereg_any p c s (r : Int) w hG
  rw [reg_is hr] at h
  exact h
theorem GPost.out {tg ts e : TypeId} {w w' : World} {p : Pl} {c : Cf} {s : St} {v : Value} {en : Ending} (h : GPost tg ts e w p c s v en w') : en = .returned v ∧ Grd tg ts e w' p c s ∧ Touch (inG p) w w' := h
/-- A configuration's first field, beside nothing. -/
theorem gconfC (p : Pl) (c : Cf) (s : St) (w : World) (hG : G w p c s) :
    Calls Try.prog 22 #[.pointer (some ⟨p.a, 0, none⟩)] w fun e w' => e = .returned (.agg #[.int .i64 (c.N : Int), .int .i64 (c.W : Int), .int .i64 (c.R : Int), .int .i64 (c.K : Int)]) ∧ Below w.heap.size w w' := gconf_any p c s w hG
theorem cfield0 (a b c d : Int) (w : World) : (Instr.field 23 (.agg #[.int .i64 a, .int .i64 b, .int .i64 c, .int .i64 d]) 0).run Try.prog w = .ok (.int .i64 a) w := by kernel_rfl
theorem cfield1 (a b c d : Int) (w : World) : (Instr.field 23 (.agg #[.int .i64 a, .int .i64 b, .int .i64 c, .int .i64 d]) 1).run Try.prog w = .ok (.int .i64 b) w := by kernel_rfl
theorem cfield2 (a b c d : Int) (w : World) : (Instr.field 23 (.agg #[.int .i64 a, .int .i64 b, .int .i64 c, .int .i64 d]) 2).run Try.prog w = .ok (.int .i64 c) w := by kernel_rfl
theorem cfield3 (a b c d : Int) (w : World) : (Instr.field 23 (.agg #[.int .i64 a, .int .i64 b, .int .i64 c, .int .i64 d]) 3).run Try.prog w = .ok (.int .i64 d) w := by kernel_rfl

end Go.Proofs.Ytgfpcamgebnfmaa.Pk
