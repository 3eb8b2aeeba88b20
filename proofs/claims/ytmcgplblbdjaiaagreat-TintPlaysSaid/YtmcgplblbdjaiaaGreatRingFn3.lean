/-
  What the functions of package ring return: List; the bundles.
-/
import Derived.Test.YtmcgplblbdjaiaaGreatRingFn2
import Derived.Test.YtmcgplblbdjaiaaGreatChainsEtc
import Derived.Deep.RegionHeld3
import Derived.BigQuiet
import Derived.Test.YtmcgplblbdjaiaaGreatGroFnEtc
import Derived.OwnWalk
import Derived.Laws.OwnMore
namespace Go.Proofs.YtmcgplblbdjaiaaGreat.Pk
open Go.RowKit
set_option linter.unusedVariables false
set_option linter.unusedSimpArgs false

theorem own_later' {w w' : World} {base : Nat} {e : TypeId} {size : Nat} {v : Value} {n : Nat} {xs : List Value} (h : w.ownsRow base e size v n xs) (hb : Below w.heap.size w w') : w'.ownsRow base e size v n xs := by
  refine ⟨h.1, ?_⟩
  rcases h.2 with hn | ⟨g, cap, cur, rfl, hbg, hgg, rest⟩
  · exact .inl hn
  · exact .inr ⟨g, cap, cur, rfl, hbg, (hb.block g (lt_of_block hgg)).trans hgg, rest⟩
theorem Gath.later' {w wr w' : World} {v : Value} {k : Nat} {zs : List Int} (h : Gath w v k zs wr) (hb : Below wr.heap.size wr w') : Gath w v k zs w' := ⟨own_later' h.1 hb, below_step h.2 hb⟩
theorem Gath.slice {w wr : World} {v : Value} {k : Nat} {zs : List Int} (h : Gath w v k zs wr) : ∃ a cap, v = .slice a k cap := by
  rcases h.1.2 with ⟨rfl, rfl⟩ | ⟨g, cap, cur, rfl, _⟩
  · exact ⟨none, 0, rfl⟩
  · exact ⟨_, cap, rfl⟩
/-- The name at a place of a row. -/
def nmR (l : List Nat) (k : Nat) : Int := fstI (l.drop k)
theorem nmR_at {l : List Nat} {k : Nat} (h : k < l.length) : nmR l k = (l[k] : Int) + 1 := by
  unfold nmR; rw [List.drop_eq_getElem_cons h]; rfl
theorem nmR_end {l : List Nat} {k : Nat} (h : l.length ≤ k) : nmR l k = 0 := by
  unfold nmR; rw [List.drop_eq_nil_of_le h]; rfl
theorem nmR_next {c : Cf} {zs : List Int} {l : List Nat} (h : RingAt c zs l) (k : Nat) (hk : k < l.length) : nth zs (adr c l[k] 7) = nmR l (k + 1) := by
  have e : l = l.take k ++ l[k] :: l.drop (k + 1) := by rw [← List.drop_eq_getElem_cons hk, List.take_append_drop]
  have h2 : RingAt c zs (l.take k ++ l[k] :: l.drop (k + 1)) := by rw [← e]; exact h
  exact h2.split.2
theorem ints_take_succ {l : List Nat} {k : Nat} (hk : k < l.length) : (ints l).take (k + 1) = (ints l).take k ++ [(l[k] : Int)] := by
  unfold ints
  rw [List.take_succ_eq_append_getElem (by simpa using hk), List.getElem_map]
def lenV : Value → Nat
  | .slice _ n _ => n
  | _ => 0

set_option maxRecDepth 100000 in
set_option maxHeartbeats 2000000 in
theorem rg_list (p : Pl) (c : Cf) (s : St) (l : List Nat) (w : World) (hG : G w p c s) (hR : RingAt c s.zs l) :
    Calls Tryz.prog 34 #[.pointer (some ⟨p.a, 0, none⟩)] w (NewNats l w) := by
  obtain ⟨i0, hi, hz0, hz1, hz2⟩ := info_parts (show (Tryz.prog.info? 3).map (fun i => (i.zero, i.size, i.bytes)) = some (some (.int .i64 0), 1, 8) by kernel_rfl)
  have HG := Lib.hid hG
  have hm := hG.may
  have hN := hm.n
  have hlk := nodup_len hR.nd hR.lt
  have hW := hm.w
  have H7 : Hid (7 < c.W) := Lib.hid (by omega)
  have HC := Lib.hid hR
  have HNx := Lib.hid (nmR_next hR)
  have hfd := cfield0 (c.N : Int) (c.W : Int) (c.R : Int) (c.K : Int)
  have H0 : Hid (nth s.zs 7 = nmR l 0) := Lib.hid hR.r7
  clear hG hR hm
  go_enter Tryz.func34, Tryz.ntmps34
  have HT0 : Hid (Below w.heap.size w w) := Lib.hid (Below.refl _ _)
  go_wp2_with fail
  refine (gconfC p c s _ HG.out).mono ?_
  rintro e wm1 ⟨rfl, hb⟩
  have HG1 := Lib.hid (HG.out.later hb)
  have HT1 : Hid (Below w.heap.size w wm1) := Lib.hid (below_step HT0.out hb)
  clear hb
  go_wp2_with fail
  refine (seeregR p c s 7 _ _ _ HG1.out (by omega) rfl H0.out).mono ?_
  rintro e wm0 ⟨rfl, rfl⟩
  go_wp2_with fail
  go_loopw [3, 5] (fun v nm wr => ∃ j : Nat, j ≤ l.length ∧ nm = .int .i64 (nmR l j) ∧ Gath w v j ((ints l).take j) wr) (fun v _ _ => c.N - lenV v)
  case atStart =>
    refine ⟨0, Nat.zero_le _, rfl, ?_, HT1.out⟩
    exact World.ownsRow_nil _ _ _ _
  case round =>
    obtain ⟨j, hj, rfl, hga⟩ := hrel
    obtain ⟨a, cap, rfl⟩ := hga.slice
    have HGa := Lib.hid hga
    have HG0 := HG
    have HGr : Hid (G wr p c s) := Lib.hid (HG0.out.later hga.2)
    clear hga
    by_cases hlt : j < l.length
    · have hjN : j < c.N := by omega
      have hb : l[j] < c.N := HC.out.lt _ (List.getElem_mem hlt)
      have HTk := Lib.hid (ints_take_succ hlt)
      have HNm := nmR_at hlt
      rw [HNm]
      have HN1 := Lib.hid (HNx.out j hlt)
      have hwf := HG0.out.wf (adr c l[j] 7)
      rw [HN1.out] at hwf
      clear HNm
      generalize l[j] = b at *
      have i1 : IntKind.i64.wrap (nmR l (j + 1)) = nmR l (j + 1) := IntWalk.i64_in _ (by omega)
      have i2 : IntKind.i64.wrap ((b : Int) + 1 - 1) = (b : Int) := by rw [Int.add_sub_cancel]; exact IntWalk.i64_in _ (by omega)
      have hown := HGa.out.1
      have hsz := HGa.out.2.size
      go_wp2_with (at_builtin; refine wpList_append_own _ rfl _ _ 54 rfl w.heap.size 3 i0 (.int .i64 0) 1 8 Tryz.underlying54 hi hz0 hz1 hz2 rfl (by decide) _ _ _ rfl (hown.alloc _) ⟨wr.heap.size, 0, none⟩ 1 1 [.int .i64 (b : Int)] rfl rfl ?c1 ?c2 ?c3 ?c4 ?c5 ?c6)
      case c1 => exact cell_one_new wr _ _
      case c2 => intro u hu; simp at hu; subst hu; rfl
      case c3 => unfold maxLen; omega
      case c4 => omega
      case c5 => simp; omega
      case c6 =>
        intro v' w4 hown' hgrow _
        have hbel1 : Below w.heap.size w w4 := (HGa.out.2.alloc hsz _).grown hgrow (by simp; omega) (owns_block hown)
        have HG4 : Hid (Gath w v' (j + 1) ((ints l).take (j + 1)) w4) := Lib.hid (by
          refine ⟨?_, hbel1⟩
          rw [HTk.out]
          simpa using hown')
        have HGr4 : Hid (G w4 p c s) := Lib.hid (HG0.out.later hbel1)
        clear hown' hgrow hbel1 hown hsz
        go_wp2_with fail
        refine (seewordW p c s b 7 _ _ _ _ HGr4.out hb H7.out (by first | rfl | exact i2) rfl HN1.out).mono ?_
        rintro e w5 ⟨rfl, hd⟩
        have HG5 := Lib.hid (HG4.out.later' hd.new)
        clear hd
        go_wp2_with fail
        go_roundw
        case rel => exact ⟨j + 1, by omega, rfl, HG5.out⟩
        case measure =>
          obtain ⟨a2, cap2, rfl⟩ := HG5.out.slice
          simp [lenV]; omega
    · have he : j = l.length := by omega
      have HNm : nmR l j = 0 := nmR_end (by omega)
      rw [HNm]
      have HO : Hid (NewNats l w (.returned (.slice a j cap)) wr) := Lib.hid (by
        have h1 := HGa.out
        rw [he, ← ints_length l, List.take_length, ints_length] at h1
        rw [he]
        exact (NewRow.mk (ints_length l).symm h1).nats rfl)
      clear he HNm
      by_cases hjN : j < c.N
      · go_wp2_with fail
        go_ret
        exact HO.out
      · go_wp2_with fail
        go_ret
        exact HO.out

theorem ringFns : RingFns where
  add_yes := fun c zs l b hz hR hb hn hk => ⟨9, by omega, fun p m w hG => rg_add_yes p c ⟨zs, m⟩ b l w hG hR hb hn hk⟩
  add_no := fun c zs l b hz hR h => ⟨askN (wordA c b 0), by have := askN_le (wordA c b 0); omega, fun p m w hG => rg_add_no p c ⟨zs, m⟩ b _ w hG rfl (by
    rcases h with h | ⟨k, rfl, hk, h⟩
    · exact .inl (by rw [tagI_out h]; rfl)
    · show headT_ (tagI c zs (k : Int)) = false ∨ _
      rw [tagI_in hz.may hk]
      by_cases hh : HeadT (nth zs (adr c k 0))
      · exact .inr ⟨headT_yes hh, decide_eq_true ((hR.mrk k hk).2 (h.resolve_left (fun g => g hh)))⟩
      · exact .inl (headT_no hh))⟩
  len := fun c zs l hz hR => ⟨1, by omega, fun p m w hG => rg_len p c ⟨zs, m⟩ _ w hG hR.r9⟩
  has := fun c zs l b hz hR => ⟨askN (wordA c b 0), by have := askN_le (wordA c b 0); omega, fun p m w hG => by
    have e : (headT_ (tagI c zs b) && markB (tagI c zs b)) = hasB (ints l) b := by
      by_cases hb : 0 ≤ b ∧ b < (c.N : Int)
      · obtain ⟨k, rfl⟩ := Int.eq_ofNat_of_zero_le hb.1
        have hk : k < c.N := by omega
        show (headT_ (tagI c zs (k : Int)) && markB (tagI c zs (k : Int))) = hasB (ints l) (k : Int)
        rw [tagI_in hz.may hk]
        by_cases hkl : k ∈ l
        · have : hasB (ints l) (k : Int) = true := by
            unfold hasB ints
            rw [List.any_map, List.any_eq_true]
            exact ⟨k, hkl, by simp⟩
          rw [this, headT_yes (hR.hd k hkl)]
          exact decide_eq_true ((hR.mrk k hk).2 hkl)
        · have e1 : hasB (ints l) (k : Int) = false := by
            cases hh : hasB (ints l) (k : Int) with
            | false => rfl
            | true =>
              obtain ⟨k', hk', hk2⟩ := hasB_nat hh
              exact absurd (show k ∈ l by rw [show k = k' by omega]; exact hk2) hkl
          have e2 : markB (nth zs (adr c k 0)) = false := decide_eq_false (fun hg => hkl ((hR.mrk k hk).1 hg))
          rw [e1, e2, Bool.and_false]
      · have e1 : hasB (ints l) b = false := by
          cases hh : hasB (ints l) b with
          | false => rfl
          | true =>
            obtain ⟨k', hk', hk2⟩ := hasB_nat hh
            have := hR.lt k' hk2
            exact absurd ⟨by omega, by omega⟩ hb
        rw [e1, tagI_out hb]; rfl
    rw [← e]
    exact rg_has p c ⟨zs, m⟩ b _ w hG rfl⟩
  list := fun c zs l hz hR p m w hG => rg_list p c ⟨zs, m⟩ l w hG hR

/-! ### Of a nil ground -/
end Go.Proofs.YtmcgplblbdjaiaaGreat.Pk
