/-
  The program's ground.
-/
import Derived.Test.YtgfpcamgebnfmaaGrd
import Derived.Test.YtgfpcamgebnfmaaPlan
import Derived.BigQuiet
import Derived.IntWalk
namespace Go.Proofs.Ytgfpcamgebnfmaa.Pk
open Go.RowKit
set_option linter.unusedVariables false
set_option linter.unusedSimpArgs false

/-- The program's ground. -/
abbrev G := Grd 61 87 36
abbrev GP := GPost 61 87 36

theorem below_any (n b : Int) (w : World) : Calls Try.prog 59 #[.int .i64 n, .int .i64 b] w fun e w' => e = .returned (.bool (decide (0 ≤ n ∧ n < b))) ∧ w = w' := by
  by_cases h : 0 ≤ n
  · go_enter Try.func59, Try.ntmps59
    go_wp2
    go_ret
    exact ⟨ret_bool (by simp [h]), rfl⟩
  · have h' : n < 0 := by omega
    go_enter Try.func59, Try.ntmps59
    go_wp2
    go_ret
    exact ⟨ret_bool (by simp; omega), rfl⟩
theorem belowB_any (n : Int) (b : Nat) (w : World) : Calls Try.prog 59 #[.int .i64 n, .int .i64 (b : Int)] w fun e w' => e = .returned (.bool (bel n b)) ∧ w = w' := below_any n b w
theorem belowR_any (n : Int) (w : World) : Calls Try.prog 59 #[.int .i64 n, .int .i64 24] w fun e w' => e = .returned (.bool (bel n 24)) ∧ w = w' := below_any n 24 w
theorem g_fits_any (n : Int) (w : World) : Calls Try.prog 72 #[.int .i64 n] w fun e w' => e = .returned (.bool (fitsB n)) ∧ w = w' := by
  by_cases h : 0 ≤ n
  · go_enter Try.func72, Try.ntmps72
    go_wp2
    go_ret
    exact ⟨ret_bool (by unfold fitsB; simp [h]), rfl⟩
  · have h' : n < 0 := by omega
    go_enter Try.func72, Try.ntmps72
    go_wp2
    go_ret
    exact ⟨ret_bool (by unfold fitsB; simp; omega), rfl⟩

theorem eqB {P : Program} {f : FuncId} {args : Array Value} {w : World} {a b : Bool} (h : Calls P f args w fun e w' => e = .returned (.bool a) ∧ w = w') (hab : a = b) :
    Calls P f args w fun e w' => e = .returned (.bool b) ∧ w = w' := hab ▸ h

theorem asV {P : Program} {f : FuncId} {args : Array Value} {w : World} {a b : Value} {Q : World → Prop} (h : Calls P f args w fun e w' => e = .returned a ∧ Q w') (hab : a = b) :
    Calls P f args w fun e w' => e = .returned b ∧ Q w' := hab ▸ h

theorem eqIv' {P : Program} {f : FuncId} {args : Array Value} {w : World} {a b : Int} {Q : World → Prop} (h : Calls P f args w fun e w' => e = .returned (.int .i64 a) ∧ Q w') (hab : a = b) :
    Calls P f args w fun e w' => e = .returned (.int .i64 b) ∧ Q w' := hab ▸ h

/-- A place's number, and whether there is one. -/
def atV (k : Option Nat) : Value := match k with | some k => .tuple #[.int .i64 (k : Int), .bool true] | none => .tuple #[.int .i64 0, .bool false]
theorem atV_some {o : Option Nat} {k : Nat} (h : o = some k) : atV o = .tuple #[.int .i64 (k : Int), .bool true] := by rw [h]; rfl
theorem atV_none {o : Option Nat} (h : o = none) : atV o = .tuple #[.int .i64 0, .bool false] := by rw [h]; rfl

theorem regAt_any (p : Pl) (c : Cf) (s : St) (r : Int) (w : World) (hG : G w p c s) :
    Calls Try.prog 67 #[.pointer (some ⟨p.a, 0, none⟩), .int .i64 r] w fun e w' => e = .returned (atV (regA r)) ∧ w = w' := by
  clear hG
  by_cases h : bel r 24 = true
  · obtain ⟨k, rfl, hk⟩ := bel_nat h
    have e1 : regA (k : Int) = some k := by unfold regA; rw [if_pos h]; simp
    rw [e1]
    clear e1
    go_enter Try.func67, Try.ntmps67
    go_wp2_with fail
    refine (eqB (belowR_any _ _) h).mono ?_
    rintro e w1 ⟨rfl, rfl⟩
    go_wp2_with fail
    go_ret2
    exact ⟨rfl, rfl⟩
  · have h' : bel r 24 = false := by simpa using h
    have e1 : regA r = none := by unfold regA; rw [if_neg h]
    rw [e1]
    clear e1
    go_enter Try.func67, Try.ntmps67
    go_wp2_with fail
    refine (eqB (belowR_any _ _) h').mono ?_
    rintro e w1 ⟨rfl, rfl⟩
    go_wp2_with fail
    go_ret2
    exact ⟨rfl, rfl⟩

theorem wordAt_yes (p : Pl) (c : Cf) (s : St) (b v : Nat) (w : World) (hG : G w p c s) (hb : b < c.N) (hv : v < c.W) :
    Calls Try.prog 36 #[.pointer (some ⟨p.a, 0, none⟩), .int .i64 (b : Int), .int .i64 (v : Int)] w fun e w' => e = .returned (atV (some (24 + c.R + b * c.W + v))) ∧ Drw w w' := by
  have cN := hG.cN
  have cW := hG.cW
  have cR := hG.cR
  have hR := hG.may.r
  have hW := hG.may.w
  have hN := hG.may.n
  have hsz := hG.may.size
  have hlt := wordA_lt' hb hv
  have e0 : ((b * c.W : Nat) : Int) = (b : Int) * (c.W : Int) := Int.natCast_mul _ _
  have hbw : 0 ≤ (b : Int) * (c.W : Int) ∧ (b : Int) * (c.W : Int) ≤ 4198424 := by omega
  clear hG
  have w1 : IntKind.i64.wrap (24 + (c.R : Int)) = 24 + (c.R : Int) := IntWalk.i64_in _ (by omega)
  have w2 : IntKind.i64.wrap ((b : Int) * (c.W : Int)) = (b : Int) * (c.W : Int) := by
    generalize (b : Int) * (c.W : Int) = x at hbw ⊢
    exact IntWalk.i64_in _ (by omega)
  have w3 : IntKind.i64.wrap (24 + (c.R : Int) + (b : Int) * (c.W : Int)) = 24 + (c.R : Int) + (b : Int) * (c.W : Int) := by
    generalize (b : Int) * (c.W : Int) = x at hbw ⊢
    exact IntWalk.i64_in _ (by omega)
  have w4 : IntKind.i64.wrap (24 + (c.R : Int) + (b : Int) * (c.W : Int) + (v : Int)) = 24 + (c.R : Int) + (b : Int) * (c.W : Int) + (v : Int) := by
    generalize (b : Int) * (c.W : Int) = x at hbw ⊢
    exact IntWalk.i64_in _ (by omega)
  have hB := Lib.hid (bel_mk hb)
  have hV := Lib.hid (bel_mk hv)
  have E0 := Lib.hid e0
  clear hb hv e0 hlt hsz
  go_enter Try.func36, Try.ntmps36
  go_wp2_with fail
  refine (eqB (belowB_any _ _ _) hB.out).mono ?_
  rintro e w1 ⟨rfl, rfl⟩
  go_wp2_with fail
  refine (eqB (belowB_any _ _ _) hV.out).mono ?_
  rintro e w1 ⟨rfl, rfl⟩
  go_wp2_with fail
  go_quiet (fail)
  go_wp2_with fail
  go_ret2
  exact ⟨by have := E0.out; simp [atV], Drw.refl _ |>.step _⟩

theorem wordAt_no1 (p : Pl) (c : Cf) (s : St) (b v : Int) (w : World) (hG : G w p c s) (hb : bel b c.N = false) :
    Calls Try.prog 36 #[.pointer (some ⟨p.a, 0, none⟩), .int .i64 b, .int .i64 v] w fun e w' => e = .returned (atV none) ∧ Drw w w' := by
  have cN := hG.cN
  have cW := hG.cW
  have hB := Lib.hid hb
  clear hG hb
  go_enter Try.func36, Try.ntmps36
  go_wp2_with fail
  refine (eqB (belowB_any _ _ _) hB.out).mono ?_
  rintro e w1 ⟨rfl, rfl⟩
  go_wp2_with fail
  go_ret2
  exact ⟨rfl, Drw.refl _⟩
theorem wordAt_no2 (p : Pl) (c : Cf) (s : St) (b v : Int) (w : World) (hG : G w p c s) (hA0 : bel b c.N = true) (hb : bel v c.W = false) :
    Calls Try.prog 36 #[.pointer (some ⟨p.a, 0, none⟩), .int .i64 b, .int .i64 v] w fun e w' => e = .returned (atV none) ∧ Drw w w' := by
  have cN := hG.cN
  have cW := hG.cW
  have hB := Lib.hid hb
  have hA := Lib.hid hA0
  clear hA0
  clear hG hb
  go_enter Try.func36, Try.ntmps36
  go_wp2_with fail
  refine (eqB (belowB_any _ _ _) hA.out).mono ?_
  rintro e w1 ⟨rfl, rfl⟩
  go_wp2_with fail
  refine (eqB (belowB_any _ _ _) hB.out).mono ?_
  rintro e w1 ⟨rfl, rfl⟩
  go_wp2_with fail
  go_ret2
  exact ⟨rfl, Drw.refl _⟩
theorem wordAt_any (p : Pl) (c : Cf) (s : St) (b v : Int) (w : World) (hG : G w p c s) :
    Calls Try.prog 36 #[.pointer (some ⟨p.a, 0, none⟩), .int .i64 b, .int .i64 v] w fun e w' => e = .returned (atV (wordA c b v)) ∧ Drw w w' := by
  by_cases h1 : bel b c.N = true
  · by_cases h2 : bel v c.W = true
    · obtain ⟨i, rfl, hi⟩ := bel_nat h1
      obtain ⟨j, rfl, hj⟩ := bel_nat h2
      have e : wordA c (i : Int) (j : Int) = some (24 + c.R + i * c.W + j) := by unfold wordA; rw [h1, h2]; simp
      rw [e]
      exact wordAt_yes p c s i j w hG hi hj
    · have e : wordA c b v = none := by unfold wordA; simp [h2]
      rw [e]
      exact wordAt_no2 p c s b v w hG h1 (by simpa using h2)
  · have e : wordA c b v = none := by unfold wordA; simp [h1]
    rw [e]
    exact wordAt_no1 p c s b v w hG (by simpa using h1)

theorem reg_any (p : Pl) (c : Cf) (s : St) (r : Int) (w : World) (hG : G w p c s) :
    Calls Try.prog 45 #[.pointer (some ⟨p.a, 0, none⟩), .int .i64 r] w (GP w p c (s.ask (regA r)) (.int .i64 (s.at? (regA r)))) := by
  have HG := Lib.hid hG
  clear hG
  cases hk : regA r with
  | none =>
    have HK := Lib.hid hk
    clear hk
    go_enter Try.func45, Try.ntmps45
    go_wp2_with fail
    refine (asV (regAt_any p c s r _ HG.out) (atV_none HK.out)).mono ?_
    rintro e w1 ⟨rfl, rfl⟩
    have HD := Lib.hid (Drw.refl w)
    have HG1 := HG
    have cp := HG1.out.ptr
    go_wp2_with fail
    go_ret
    exact ⟨rfl, HG1.out, Touch.of_below (HD.out.new)⟩
  | some k =>
    have HK := Lib.hid hk
    have HL := Lib.hid (show k < s.zs.length by rw [HG.out.len]; exact regA_lt hk)
    clear hk
    have hwr : IntKind.i64.wrap (nth s.zs k) = nth s.zs k := by have := HG.out.wf k; exact IntWalk.i64_in _ (by omega)
    go_enter Try.func45, Try.ntmps45
    go_wp2_with fail
    refine (asV (regAt_any p c s r _ HG.out) (atV_some HK.out)).mono ?_
    rintro e w1 ⟨rfl, rfl⟩
    have HD := Lib.hid (Drw.refl w)
    have HG1 := HG
    have cp := HG1.out.ptr
    go_wp2_with fail
    refine (mget_yes p.s p.g s.zs s.m k _ HG1.out.st HL.out).mono ?_
    rintro e w2 ⟨rfl, hS, hT⟩
    have HS := Lib.hid hS
    have HT := Lib.hid hT
    clear hS hT
    go_wp2_with fail
    go_ret
    exact ⟨rfl, HG1.out.step (s' := s.got) HS.out HT.out rfl HG1.out.wf, (Touch.of_below (HD.out.new)).trans HT.out⟩
theorem seereg_any (p : Pl) (c : Cf) (s : St) (r : Int) (w : World) (hG : G w p c s) :
    Calls Try.prog 52 #[.pointer (some ⟨p.a, 0, none⟩), .int .i64 r] w fun e w' => e = .returned (.int .i64 (s.at? (regA r))) ∧ w = w' := by
  have HG := Lib.hid hG
  clear hG
  cases hk : regA r with
  | none =>
    have HK := Lib.hid hk
    clear hk
    go_enter Try.func52, Try.ntmps52
    go_wp2_with fail
    refine (asV (regAt_any p c s r _ HG.out) (atV_none HK.out)).mono ?_
    rintro e w1 ⟨rfl, rfl⟩
    have HD := Lib.hid (Drw.refl w)
    have HG1 := HG
    have cp := HG1.out.ptr
    go_wp2_with fail
    go_ret
    exact ⟨rfl, rfl⟩
  | some k =>
    have HK := Lib.hid hk
    have HL := Lib.hid (show k < s.zs.length by rw [HG.out.len]; exact regA_lt hk)
    clear hk
    have hwr : IntKind.i64.wrap (nth s.zs k) = nth s.zs k := by have := HG.out.wf k; exact IntWalk.i64_in _ (by omega)
    go_enter Try.func52, Try.ntmps52
    go_wp2_with fail
    refine (asV (regAt_any p c s r _ HG.out) (atV_some HK.out)).mono ?_
    rintro e w1 ⟨rfl, rfl⟩
    have HD := Lib.hid (Drw.refl w)
    have HG1 := HG
    have cp := HG1.out.ptr
    go_wp2_with fail
    refine (peek_yes p.s p.g s.zs _ k _ HG1.out.st HL.out).mono ?_
    rintro e w2 ⟨rfl, rfl⟩
    go_wp2_with fail
    go_ret
    exact ⟨rfl, rfl⟩
theorem setreg_any (p : Pl) (c : Cf) (s : St) (r : Int) (x : Int) (w : World) (hG : G w p c s) :
    Calls Try.prog 58 #[.pointer (some ⟨p.a, 0, none⟩), .int .i64 r, .int .i64 x] w (GP w p c (s.putN (regA r) x) (.bool (putB (regA r) x))) := by
  have HG := Lib.hid hG
  clear hG
  cases hk : regA r with
  | none =>
    have HK := Lib.hid hk
    have E : Hid (s.putN none x = s) := Lib.hid (by unfold St.putN; split <;> rfl)
    clear hk
    go_enter Try.func58, Try.ntmps58
    go_wp2_with fail
    refine (asV (regAt_any p c s r _ HG.out) (atV_none HK.out)).mono ?_
    rintro e w1 ⟨rfl, rfl⟩
    have HD := Lib.hid (Drw.refl w)
    have HG1 := HG
    have cp := HG1.out.ptr
    go_wp2_with fail
    go_ret
    exact ⟨rfl, by rw [E.out]; exact HG1.out, Touch.of_below (HD.out.new)⟩
  | some k =>
    have HK := Lib.hid hk
    have HL := Lib.hid (show k < s.zs.length by rw [HG.out.len]; exact regA_lt hk)
    clear hk
    by_cases hf : fitsB x = true
    · have hr := fitsB_yes hf
      have hwr : IntKind.u32.wrap x = x := IntWalk.u32_in _ (by omega)
      have HF := Lib.hid hf
      clear hf
      go_enter Try.func58, Try.ntmps58
      go_wp2_with fail
      refine (asV (regAt_any p c s r _ HG.out) (atV_some HK.out)).mono ?_
      rintro e w1 ⟨rfl, rfl⟩
      have HD := Lib.hid (Drw.refl w)
      have HG1 := HG
      have cp := HG1.out.ptr
      go_wp2_with fail
      refine (eqB (g_fits_any _ _) HF.out).mono ?_
      rintro e w1 ⟨rfl, rfl⟩
      go_wp2_with fail
      refine (mput_yes p.s p.g s.zs s.m x k _ HG1.out.st HL.out).mono ?_
      rintro e w2 ⟨rfl, hS, hT⟩
      have HS := Lib.hid hS
      have HT := Lib.hid hT
      clear hS hT
      go_wp2_with fail
      go_ret
      refine ⟨by unfold putB; rw [HF.out]; rfl, ?_, (Touch.of_below (HD.out.new)).trans HT.out⟩
      rw [show s.putN (some k) x = s.set k x by unfold St.putN; rw [if_pos HF.out]; rfl]
      exact HG1.out.step (s' := s.set k x) HS.out HT.out (s.set_len k x) (HG1.out.wf.set k hr.1 hr.2)
    · have HF := Lib.hid (show fitsB x = false by simpa using hf)
      clear hf
      go_enter Try.func58, Try.ntmps58
      go_wp2_with fail
      refine (asV (regAt_any p c s r _ HG.out) (atV_some HK.out)).mono ?_
      rintro e w1 ⟨rfl, rfl⟩
      have HD := Lib.hid (Drw.refl w)
      have HG1 := HG
      have cp := HG1.out.ptr
      go_wp2_with fail
      refine (eqB (g_fits_any _ _) HF.out).mono ?_
      rintro e w1 ⟨rfl, rfl⟩
      go_wp2_with fail
      go_ret
      exact ⟨by unfold putB; rw [HF.out]; rfl, by unfold St.putN; rw [if_neg (by rw [HF.out]; simp)]; exact HG1.out, Touch.of_below (HD.out.new)⟩
theorem word_any (p : Pl) (c : Cf) (s : St) (b v : Int) (w : World) (hG : G w p c s) :
    Calls Try.prog 32 #[.pointer (some ⟨p.a, 0, none⟩), .int .i64 b, .int .i64 v] w (GP w p c (s.ask (wordA c b v)) (.int .u32 (s.at? (wordA c b v)))) := by
  have HG := Lib.hid hG
  clear hG
  cases hk : wordA c b v with
  | none =>
    have HK := Lib.hid hk
    clear hk
    go_enter Try.func32, Try.ntmps32
    go_wp2_with fail
    refine (asV (wordAt_any p c s b v _ HG.out) (atV_none HK.out)).mono ?_
    rintro e w1 ⟨rfl, hd⟩
    have HD := Lib.hid hd
    have HG1 := Lib.hid (HG.out.drw hd)
    have cp := HG1.out.ptr
    clear hd
    go_wp2_with fail
    go_ret
    exact ⟨rfl, HG1.out, Touch.of_below (HD.out.new)⟩
  | some k =>
    have HK := Lib.hid hk
    have HL := Lib.hid (show k < s.zs.length by rw [HG.out.len]; exact wordA_lt hk)
    clear hk
    go_enter Try.func32, Try.ntmps32
    go_wp2_with fail
    refine (asV (wordAt_any p c s b v _ HG.out) (atV_some HK.out)).mono ?_
    rintro e w1 ⟨rfl, hd⟩
    have HD := Lib.hid hd
    have HG1 := Lib.hid (HG.out.drw hd)
    have cp := HG1.out.ptr
    clear hd
    go_wp2_with fail
    refine (mget_yes p.s p.g s.zs s.m k _ HG1.out.st HL.out).mono ?_
    rintro e w2 ⟨rfl, hS, hT⟩
    have HS := Lib.hid hS
    have HT := Lib.hid hT
    clear hS hT
    go_wp2_with fail
    go_ret
    exact ⟨rfl, HG1.out.step (s' := s.got) HS.out HT.out rfl HG1.out.wf, (Touch.of_below (HD.out.new)).trans HT.out⟩
theorem seeword_any (p : Pl) (c : Cf) (s : St) (b v : Int) (w : World) (hG : G w p c s) :
    Calls Try.prog 28 #[.pointer (some ⟨p.a, 0, none⟩), .int .i64 b, .int .i64 v] w fun e w' => e = .returned (.int .u32 (s.at? (wordA c b v))) ∧ Drw w w' := by
  have HG := Lib.hid hG
  clear hG
  cases hk : wordA c b v with
  | none =>
    have HK := Lib.hid hk
    clear hk
    go_enter Try.func28, Try.ntmps28
    go_wp2_with fail
    refine (asV (wordAt_any p c s b v _ HG.out) (atV_none HK.out)).mono ?_
    rintro e w1 ⟨rfl, hd⟩
    have HD := Lib.hid hd
    have HG1 := Lib.hid (HG.out.drw hd)
    have cp := HG1.out.ptr
    clear hd
    go_wp2_with fail
    go_ret
    exact ⟨rfl, HD.out⟩
  | some k =>
    have HK := Lib.hid hk
    have HL := Lib.hid (show k < s.zs.length by rw [HG.out.len]; exact wordA_lt hk)
    clear hk
    go_enter Try.func28, Try.ntmps28
    go_wp2_with fail
    refine (asV (wordAt_any p c s b v _ HG.out) (atV_some HK.out)).mono ?_
    rintro e w1 ⟨rfl, hd⟩
    have HD := Lib.hid hd
    have HG1 := Lib.hid (HG.out.drw hd)
    have cp := HG1.out.ptr
    clear hd
    go_wp2_with fail
    refine (peek_yes p.s p.g s.zs _ k _ HG1.out.st HL.out).mono ?_
    rintro e w2 ⟨rfl, rfl⟩
    go_wp2_with fail
    go_ret
    exact ⟨rfl, HD.out⟩
theorem setword_any (p : Pl) (c : Cf) (s : St) (b v : Int) (x : Int) (w : World) (hG : G w p c s) (h0 : 0 ≤ x) (h1 : x ≤ 4294967295) :
    Calls Try.prog 17 #[.pointer (some ⟨p.a, 0, none⟩), .int .i64 b, .int .i64 v, .int .u32 x] w (GP w p c (s.put (wordA c b v) x) (.bool (wordA c b v).isSome)) := by
  have HG := Lib.hid hG
  clear hG
  cases hk : wordA c b v with
  | none =>
    have HK := Lib.hid hk
    clear hk
    go_enter Try.func17, Try.ntmps17
    go_wp2_with fail
    refine (asV (wordAt_any p c s b v _ HG.out) (atV_none HK.out)).mono ?_
    rintro e w1 ⟨rfl, hd⟩
    have HD := Lib.hid hd
    have HG1 := Lib.hid (HG.out.drw hd)
    have cp := HG1.out.ptr
    clear hd
    go_wp2_with fail
    go_ret
    exact ⟨rfl, HG1.out, Touch.of_below (HD.out.new)⟩
  | some k =>
    have HK := Lib.hid hk
    have HL := Lib.hid (show k < s.zs.length by rw [HG.out.len]; exact wordA_lt hk)
    clear hk
    go_enter Try.func17, Try.ntmps17
    go_wp2_with fail
    refine (asV (wordAt_any p c s b v _ HG.out) (atV_some HK.out)).mono ?_
    rintro e w1 ⟨rfl, hd⟩
    have HD := Lib.hid hd
    have HG1 := Lib.hid (HG.out.drw hd)
    have cp := HG1.out.ptr
    clear hd
    go_wp2_with fail
    refine (mput_yes p.s p.g s.zs s.m x k _ HG1.out.st HL.out).mono ?_
    rintro e w2 ⟨rfl, hS, hT⟩
    have HS := Lib.hid hS
    have HT := Lib.hid hT
    clear hS hT
    go_wp2_with fail
    go_ret
    exact ⟨rfl, HG1.out.step (s' := s.set k x) HS.out HT.out (s.set_len k x) (HG1.out.wf.set k h0 h1), (Touch.of_below (HD.out.new)).trans HT.out⟩

end Go.Proofs.Ytgfpcamgebnfmaa.Pk
