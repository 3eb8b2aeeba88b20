/-
  What Split returns: the program's, and the document's; and the document's Same.
-/
import Derived.Test.YtmhehnckjmoikaaPackRows
import Derived.Test.YtmhehnckjmoikaaPackJoin
namespace Go.Proofs.Ytmhehnckjmoikaa.Pk
open Go.RowKit
set_option linter.unusedVariables false
set_option linter.unusedSimpArgs false

theorem infoU32 : (Try.prog.info? 22).map (fun i => (i.zero, i.size, i.bytes)) = some (some (.int .u32 0), 1, 4) := by kernel_rfl

/-- The pieces so far, and noughts for those still to come. -/
def part (x : Int) (zs : List Int) (k : Nat) : List Value := (splitTo x zs k ++ List.replicate (zs.length - k) 0).map (Value.int .u32)
theorem part_length (x : Int) (zs : List Int) (k : Nat) (hk : k ≤ zs.length) : (part x zs k).length = zs.length := by
  simp [part, splitTo_length]; omega
theorem part_zero (x : Int) (zs : List Int) : part x zs 0 = List.replicate zs.length (.int .u32 0) := by
  simp [part, splitTo]
theorem part_at (x : Int) (zs : List Int) (k : Nat) (hk : k < zs.length) : (part x zs k)[k]? = some (.int .u32 0) := by
  unfold part
  rw [List.getElem?_map, List.getElem?_append_right (by rw [splitTo_length]; omega), splitTo_length, List.getElem?_replicate, if_pos (by omega)]
  rfl
theorem part_set (x : Int) (zs : List Int) (k : Nat) (hk : k < zs.length) :
    (part x zs k).set k (.int .u32 (getI x (sumTo zs k) (nth zs k))) = part x zs (k + 1) := by
  unfold part
  rw [splitTo_succ, show zs.length - k = (zs.length - (k + 1)) + 1 by omega, List.replicate_succ, List.map_append, List.set_append_right _ _ (by rw [List.length_map, splitTo_length]; omega)]
  rw [List.length_map, splitTo_length, Nat.sub_self]
  simp
theorem part_all (x : Int) (zs : List Int) : part x zs zs.length = (splitTo x zs zs.length).map (Value.int .u32) := by
  simp [part]

/-- What a call owns as a row of numbers reads as those numbers. -/
theorem Row.of_owns {w : World} {B : Nat} {e : TypeId} {k : IntKind} {v : Value} {zs : List Int} (h : w.ownsRow B e 1 v zs.length (zs.map (Value.int k))) :
    ∃ a cap, v = .slice a zs.length cap ∧ Row w k a zs := by
  rcases h.2 with ⟨h1, h2⟩ | ⟨g, cap, cur, h1, _, hg, _⟩
  · refine ⟨none, 0, by rw [h1, h2], fun i hi => ?_⟩
    omega
  · refine ⟨some ⟨g, 0, none⟩, cap, h1, fun i hi => ⟨g, 0, rfl, ?_, ?_⟩⟩
    · by_cases hlt : g < w.heap.size
      · exact hlt
      · rw [Array.getElem?_eq_none (by omega)] at hg
        cases hg
    · subst h1
      have hc := h.cellAt i (by omega)
      rw [Nat.zero_add, hc, List.getElem?_map]
      show Option.map (Value.int k) zs[i]? = some (Value.int k (zs.getD i 0))
      simp [List.getD, hi]

theorem owns_block {w : World} {B : Nat} {e : TypeId} {size : Nat} {v : Value} {n : Nat} {xs : List Value} (h : w.ownsRow B e size v n xs) : ∀ k, v.ownBlock = some k → B ≤ k := by
  intro k hk
  rcases h.2 with ⟨h1, _⟩ | ⟨g, cap, cur, h1, hb, _⟩
  · subst h1; cases hk
  · subst h1
    simp [Value.ownBlock] at hk
    omega

theorem ret_slice {v v' : Value} {c : Int} (h : v = v') : Ending.returned (.tuple #[v, .int .i64 c]) = .returned (.tuple #[v', .int .i64 c]) := by rw [h]

/-- The end of a Split: the pieces, in memory of its own. -/
def Pieces (x : Int) (zs : List Int) (w : World) (e : Ending) (w' : World) : Prop :=
  ∃ a cap, e = .returned (.tuple #[.slice a zs.length cap, .int .i64 0]) ∧ Row w' .u32 a (splitTo x zs zs.length) ∧ Below w.heap.size w w'
theorem Pieces.mk {x : Int} {zs : List Int} {w w' : World} {v : Value} {B : Nat} {t : TypeId}
    (h : w'.ownsRow B t 1 v zs.length ((splitTo x zs zs.length).map (Value.int .u32))) (hb : Below w.heap.size w w') : Pieces x zs w (.returned (.tuple #[v, .int .i64 0])) w' := by
  have h2 : w'.ownsRow B t 1 v (splitTo x zs zs.length).length ((splitTo x zs zs.length).map (Value.int .u32)) := by rw [splitTo_length]; exact h
  obtain ⟨a, cap, hv, hr⟩ := Row.of_owns h2
  rw [splitTo_length] at hv
  exact ⟨a, cap, by rw [hv], hr, hb⟩

set_option maxHeartbeats 400000 in
theorem split_wide (x : Int) (a : Option Addr) (cap : Nat) (zs : List Int) (w : World) (hz : Row w .i64 a zs) (hr : ¬ rightTo zs zs.length) :
    Calls Try.prog 18 #[.int .u32 x, .slice a zs.length cap] w fun e w' => e = .returned (.tuple #[.slice none 0 0, .int .i64 2]) ∧ w = w' := by
  have HR : Hid (¬ rightTo zs zs.length) := hr
  clear hr
  go_enter Try.func18, Try.ntmps18
  go_wp2_with (go_at_call 27; refine (together_no _ _ _ _ hz HR.out).mono ?_; rintro e w' ⟨rfl, rfl⟩)
  go_ret2
  exact ⟨rfl, rfl⟩

theorem fits_yes (v n : Int) (w : World) (h0 : 0 ≤ v) (h1 : v ≤ 4294967295) (h : fitB v n = true) :
    Calls Try.prog 11 #[.int .u32 v, .int .i64 n] w fun e w' => e = .returned (.bool true) ∧ w = w' := by
  rw [← h]; exact fits_any v n w h0 h1
theorem fits_not (v n : Int) (w : World) (h0 : 0 ≤ v) (h1 : v ≤ 4294967295) (h : fitB v n = false) :
    Calls Try.prog 11 #[.int .u32 v, .int .i64 n] w fun e w' => e = .returned (.bool false) ∧ w = w' := by
  rw [← h]; exact fits_any v n w h0 h1

set_option maxHeartbeats 400000 in
theorem split_big (x : Int) (a : Option Addr) (cap : Nat) (zs : List Int) (w : World) (h0 : 0 ≤ x) (h1 : x ≤ 4294967295) (hz : Row w .i64 a zs) (hr : rightTo zs zs.length) (hf : fitB x (sumTo zs zs.length) = false) :
    Calls Try.prog 18 #[.int .u32 x, .slice a zs.length cap] w fun e w' => e = .returned (.tuple #[.slice none 0 0, .int .i64 15]) ∧ w = w' := by
  have HF : Hid (fitB x (sumTo zs zs.length) = false) := hf
  clear hf
  go_enter Try.func18, Try.ntmps18
  go_wp2_with (first | (go_at_call 27; refine (together_yes _ _ _ _ hz hr).mono ?_; rintro e w' ⟨rfl, rfl⟩) | (go_at_call 11; refine (fits_not _ _ _ h0 h1 HF.out).mono ?_; rintro e w' ⟨rfl, rfl⟩))
  go_ret2
  exact ⟨rfl, rfl⟩

set_option maxHeartbeats 600000 in
theorem split_yes (x : Int) (a : Option Addr) (cap : Nat) (zs : List Int) (w : World) (h0 : 0 ≤ x) (h1 : x ≤ 4294967295) (hz : Row w .i64 a zs) (hr : rightTo zs zs.length) (hf : fitB x (sumTo zs zs.length) = true) :
    Calls Try.prog 18 #[.int .u32 x, .slice a zs.length cap] w fun e w' => Pieces x zs w e w' := by
  have HF : Hid (fitB x (sumTo zs zs.length) = true) := hf
  have hl : (zs.length : Int) ≤ 32 := by have := rightTo_bd hr; omega
  obtain ⟨i0, hi, hz0, hz1, hz2⟩ := info_parts infoU32
  clear hf
  go_enter Try.func18, Try.ntmps18
  go_wp2_with (first | (go_at_call 27; refine (together_yes _ _ _ _ hz hr).mono ?_; rintro e w' ⟨rfl, rfl⟩) | (go_at_call 11; refine (fits_yes _ _ _ h0 h1 HF.out).mono ?_; rintro e w' ⟨rfl, rfl⟩) | (at_make; refine wpList_make_full _ rfl _ _ 36 rfl w.heap.size 22 i0 (.int .u32 0) 1 Try.underlying36 hi hz0 hz1 .i64 .i64 _ _ zs.length rfl rfl rfl rfl (by rw [hz2]; omega) (by unfold maxLen; omega) (Nat.le_refl _) ?_; intro w1 hown hgrow))
  have hb0 : Below w.heap.size w w1 := (Below.refl _ _).grown hgrow (Nat.le_refl _) (fun _ h => by cases h)
  have hown0 : w1.ownsRow w.heap.size 22 1 (.slice (some ⟨w.heap.size, 0, none⟩) zs.length zs.length) zs.length (part x zs 0) := by
    rw [part_zero, ← toList_madeCells_one]
    rw [Nat.mul_one] at hown
    exact hown
  clear hown hgrow hi hz0 hz1 hz2
  go_loopw [9, 28] (fun t i wr => ∃ k : Nat, k ≤ zs.length ∧ i = .int .i64 k ∧ t = .int .i64 (sumTo zs k) ∧ wr.ownsRow w.heap.size 22 1 (.slice (some ⟨w.heap.size, 0, none⟩) zs.length zs.length) zs.length (part x zs k) ∧ Below w.heap.size w wr) (fun _ i _ => zs.length - (intOf i).toNat)
  case atStart => exact ⟨0, Nat.zero_le _, rfl, rfl, hown0, hb0⟩
  case round =>
    obtain ⟨k, hk, rfl, rfl, hown, hbel⟩ := hrel
    clear hown0 hb0
    by_cases hlt : k < zs.length
    · obtain ⟨b, off, rfl, hb, hc⟩ := (hz.below hbel (Nat.le_refl _)) k hlt
      obtain ⟨g1, g2⟩ := hr k hlt
      obtain ⟨h3, h4⟩ := rightTo_bd (rightTo_mono hr (Nat.le_of_lt hlt))
      have HP : Hid (pieceB (sumTo zs k) (nth zs k) = true) := rightTo_piece (rightTo_mono hr hlt)
      have hcell : wr.cell? ⟨w.heap.size, k, none⟩ = some (.int .u32 0) := by rw [hown.cellAt k (by omega), part_at x zs k hlt]
      have hfro : wr.frozen? ⟨w.heap.size, k, none⟩ = false := hown.frozenAt k
      have hst := (hown.stored k (.int .u32 (getI x (sumTo zs k) (nth zs k)))).1
      rw [part_set x zs k hlt] at hst
      have HO := Lib.hid hst
      have HS : Hid (sumTo zs (k + 1) = sumTo zs k + nth zs k) := sumTo_succ zs k
      clear hst
      go_wp2_with (go_at_call 9; refine (get_yes _ _ _ _ h0 h1 HP.out).mono ?_; rintro e w' ⟨rfl, m', rfl⟩)
      go_roundw
      case rel => exact ⟨k + 1, by omega, by go_num, by rw [HS.out], HO.out, (hbel.trans (Drw.below ⟨m', rfl⟩ _)).setCell (Nat.le_refl _) _⟩
      case measure => simp [intOf]; omega
    · have e : k = zs.length := by omega
      have HO : Hid (wr.ownsRow w.heap.size 22 1 (.slice (some ⟨w.heap.size, 0, none⟩) zs.length zs.length) zs.length ((splitTo x zs zs.length).map (Value.int .u32))) := by
        rw [← part_all, ← e]; rw [← e] at hown; exact hown
      clear e hown
      go_wp2
      go_ret2
      exact Pieces.mk HO.out hbel

/-! ### The document's -/
set_option maxHeartbeats 400000 in
theorem refSplit_wide (x : Int) (a : Option Addr) (cap : Nat) (zs : List Int) (w : World) (hz : Row w .i64 a zs) (hlen : (zs.length : Int) ≤ 9223372036854775807) (hr : ¬ rightTo zs zs.length) :
    Calls Try.prog 19 #[.int .u32 x, .slice a zs.length cap] w fun e w' => e = .returned (.tuple #[.slice none 0 0, .int .i64 2]) ∧ w = w' := by
  have HR : Hid (¬ rightTo zs zs.length) := hr
  clear hr
  go_enter Try.func19, Try.ntmps19
  go_wp2_with (go_at_call 28; refine (right_no _ _ _ _ hz hlen HR.out).mono ?_; rintro e w' ⟨rfl, rfl⟩)
  go_ret2
  exact ⟨rfl, rfl⟩

/-- The relation of the document's loop: the pieces so far, in memory of its own. -/
def Gathered (x : Int) (zs : List Int) (w : World) (k : Nat) (v : Value) (wr : World) : Prop :=
  wr.ownsRow w.heap.size 22 1 v k ((splitTo x zs k).map (Value.int .u32)) ∧ Below w.heap.size w wr

set_option maxHeartbeats 1000000 in
theorem refSplit_loop (x : Int) (a : Option Addr) (cap : Nat) (zs : List Int) (w : World) (h0 : 0 ≤ x) (h1 : x ≤ 4294967295) (hz : Row w .i64 a zs) (hr : rightTo zs zs.length) :
    Calls Try.prog 19 #[.int .u32 x, .slice a zs.length cap] w fun e w' => (fitB x (sumTo zs zs.length) = true → Pieces x zs w e w') ∧ (fitB x (sumTo zs zs.length) = false → e = .returned (.tuple #[.slice none 0 0, .int .i64 15]) ∧ Below w.heap.size w w') := by
  have hl : (zs.length : Int) ≤ 32 := by have := rightTo_bd hr; omega
  obtain ⟨i0, hi, hz0, hz1, hz2⟩ := info_parts infoU32
  go_enter Try.func19, Try.ntmps19
  go_wp2_with (go_at_call 28; refine (right_yes _ _ _ _ hz hr).mono ?_; rintro e w' ⟨rfl, rfl⟩)
  go_loopw [6, 7, 8] (fun t v i wr => ∃ k : Nat, k ≤ zs.length ∧ i = .int .i64 k ∧ t = .int .i64 (sumTo zs k) ∧ Gathered x zs w k v wr) (fun _ _ i _ => zs.length - (intOf i).toNat)
  case atStart => exact ⟨0, Nat.zero_le _, rfl, rfl, World.ownsRow_nil _ _ _ _, Below.refl _ _⟩
  case round =>
    obtain ⟨k, hk, rfl, rfl, hown, hbel⟩ := hrel
    by_cases hlt : k < zs.length
    · obtain ⟨b, off, rfl, hb, hcw⟩ := hz k hlt
      have hc := (hbel.cell (p := ⟨b, off + k, none⟩) hb).trans hcw
      obtain ⟨g1, g2⟩ := hr k hlt
      obtain ⟨h3, h4⟩ := rightTo_bd (rightTo_mono hr (Nat.le_of_lt hlt))
      have HP : Hid (pieceB (sumTo zs k) (nth zs k) = true) := rightTo_piece (rightTo_mono hr hlt)
      have HS : Hid (sumTo zs (k + 1) = sumTo zs k + nth zs k) := sumTo_succ zs k
      have HT : Hid (splitTo x zs (k + 1) = splitTo x zs k ++ [getI x (sumTo zs k) (nth zs k)]) := splitTo_succ x zs k
      have hsz := hbel.size
      have HW := Lib.hid hcw
      clear hcw
      go_wp2_with (first | (go_at_call 10; refine (refGet_yes _ _ _ _ h0 h1 HP.out).mono ?_; rintro e w' ⟨rfl, m', rfl⟩) | (at_builtin; refine wpList_append_own _ rfl _ _ 36 rfl w.heap.size 22 i0 (.int .u32 0) 1 4 Try.underlying36 hi hz0 hz1 hz2 rfl (by decide) _ _ _ rfl (hown.alloc _) ⟨wr.heap.size, 0, none⟩ 1 1 [.int .u32 (getI x (sumTo zs k) (nth zs k))] rfl rfl ?c1 ?c2 ?c3 ?c4 ?c5 ?c6))
      case c1 =>
        exact cell_one_new (wr.drewN m') _ _
      case c2 => intro u hu; simp at hu; subst hu; rfl
      case c3 => unfold maxLen; omega
      case c4 => omega
      case c5 => simp; omega
      case c6 =>
        intro v' w1 hown' hgrow _
        have hbel1 : Below w.heap.size w w1 := ((hbel.trans (Drw.below ⟨m', rfl⟩ _)).alloc hsz _).grown hgrow (by simp; omega) (owns_block hown)
        have hc1 := (hbel1.cell (p := ⟨b, off + k, none⟩) hb).trans HW.out
        have HG : Hid (Gathered x zs w (k + 1) v' w1) := by
          refine ⟨?_, hbel1⟩
          rw [HT.out, List.map_append]
          exact hown'
        clear hown' hgrow hbel1 hown hbel hc
        go_wp2
        go_roundw
        case rel => exact ⟨k + 1, by omega, by go_num, by rw [HS.out], HG.out⟩
        case measure => simp [intOf]; omega
    · have e : k = zs.length := by omega
      have HK : Hid (k = zs.length) := e
      have hS : sumTo zs k = sumTo zs zs.length := by rw [e]
      have hs0 : 0 ≤ sumTo zs k := by rw [hS]; have := rightTo_bd hr; omega
      have hs1 : sumTo zs k ≤ 32 := by rw [hS]; exact (rightTo_bd hr).2
      clear e hi hz0 hz1 hz2
      by_cases hf : fitB x (sumTo zs k) = true
      · have HF : Hid (fitB x (sumTo zs k) = true) := hf
        have HO : Hid (wr.ownsRow w.heap.size 22 1 u7 zs.length ((splitTo x zs zs.length).map (Value.int .u32))) := by
          have h := hown; rw [HK.out] at h; exact h
        have HE : Hid (fitB x (sumTo zs zs.length) = true) := by rw [← hS]; exact hf
        have hb1 : -9223372036854775808 ≤ sumTo zs k := by omega
        have hb2 : sumTo zs k ≤ 9223372036854775807 := by omega
        clear hf hS hown
        go_wp2_with (go_at_call 12; refine (refFits_yes _ _ _ h0 h1 hb1 hb2 HF.out).mono ?_; rintro e w' ⟨rfl, rfl⟩)
        go_ret2
        exact ⟨fun _ => Pieces.mk HO.out hbel, (fun h => by rw [HE.out] at h; cases h)⟩
      · have HF : Hid (fitB x (sumTo zs k) = false) := Bool.eq_false_iff.2 hf
        have HE : Hid (fitB x (sumTo zs zs.length) = false) := by rw [← hS]; exact Bool.eq_false_iff.2 hf
        have hb1 : -9223372036854775808 ≤ sumTo zs k := by omega
        have hb2 : sumTo zs k ≤ 9223372036854775807 := by omega
        clear hf hS hown
        go_wp2_with (go_at_call 12; refine (refFits_not _ _ _ h0 h1 hb1 hb2 HF.out).mono ?_; rintro e w' ⟨rfl, rfl⟩)
        go_ret2
        exact ⟨(fun h => by rw [HE.out] at h; cases h), fun _ => ⟨rfl, hbel⟩⟩

theorem refSplit_yes (x : Int) (a : Option Addr) (cap : Nat) (zs : List Int) (w : World) (h0 : 0 ≤ x) (h1 : x ≤ 4294967295) (hz : Row w .i64 a zs) (hr : rightTo zs zs.length) (hf : fitB x (sumTo zs zs.length) = true) :
    Calls Try.prog 19 #[.int .u32 x, .slice a zs.length cap] w fun e w' => Pieces x zs w e w' :=
  (refSplit_loop x a cap zs w h0 h1 hz hr).mono fun _ _ h => h.1 hf
theorem refSplit_big (x : Int) (a : Option Addr) (cap : Nat) (zs : List Int) (w : World) (h0 : 0 ≤ x) (h1 : x ≤ 4294967295) (hz : Row w .i64 a zs) (hr : rightTo zs zs.length) (hf : fitB x (sumTo zs zs.length) = false) :
    Calls Try.prog 19 #[.int .u32 x, .slice a zs.length cap] w fun e w' => e = .returned (.tuple #[.slice none 0 0, .int .i64 15]) ∧ Below w.heap.size w w' :=
  (refSplit_loop x a cap zs w h0 h1 hz hr).mono fun _ _ h => h.2 hf

set_option maxHeartbeats 400000 in
theorem same_yes (a b : Option Addr) (ca cb : Nat) (zs : List Int) (w : World) (h1 : Row w .u32 a zs) (h2 : Row w .u32 b zs) (hlen : (zs.length : Int) ≤ 9223372036854775807) :
    Calls Try.prog 22 #[.slice a zs.length ca, .slice b zs.length cb] w fun e w' => e = .returned (.bool true) ∧ Drw w w' := by
  go_enter Try.func22, Try.ntmps22
  go_wp2
  go_loopw [5] (fun i wr => ∃ k : Nat, k ≤ zs.length ∧ i = .int .i64 k ∧ Drw w wr) (fun i _ => zs.length - (intOf i).toNat)
  case atStart => exact ⟨0, Nat.zero_le _, rfl, Drw.refl _⟩
  case round =>
    obtain ⟨k, hk, rfl, hd⟩ := hrel
    by_cases hlt : k < zs.length
    · obtain ⟨b1, o1, rfl, hb1, hc1⟩ := (h1.drw hd) k hlt
      obtain ⟨b2, o2, rfl, hb2, hc2⟩ := (h2.drw hd) k hlt
      go_wp2
      go_quiet (fail)
      go_wp2
      go_roundw
      case rel => exact ⟨k + 1, by omega, by go_num, hd.step _⟩
      case measure => simp [intOf]; omega
    · go_wp2
      go_ret
      exact ⟨rfl, hd⟩

end Go.Proofs.Ytmhehnckjmoikaa.Pk
