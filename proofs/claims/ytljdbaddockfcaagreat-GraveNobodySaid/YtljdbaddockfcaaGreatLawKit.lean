/-
  What the laws over a ground have in common: their configurations, their rows, looks at the meter, arrays of their own.
-/
import Derived.Test.YtljdbaddockfcaaGreatActs
import Derived.Test.YtljdbaddockfcaaGreatChains
import Derived.Test.YtljdbaddockfcaaGreatBase
namespace Go.Proofs.YtljdbaddockfcaaGreat.Pk
open Go.RowKit
set_option linter.unusedVariables false
set_option linter.unusedSimpArgs false

/-- A new row of blocks' numbers. -/
def NewNats (l : List Nat) (w : World) (e : Ending) (w' : World) : Prop :=
  ∃ a cap, e = .returned (.slice a l.length cap) ∧ Row w' .i64 a (ints l) ∧ (∀ b off, a = some ⟨b, off, none⟩ → w.heap.size ≤ b) ∧ Below w.heap.size w w'
/-- The law's configuration. -/
def cfR (n : Nat) : Cf := ⟨n, 16, 1, 1⟩
theorem cfR_may {n : Nat} (h0 : 1 ≤ n) (h1 : n ≤ 1000) : (cfR n).May := by constructor <;> simp [cfR] <;> omega
theorem newR (n : Nat) (h0 : 1 ≤ n) (h1 : n ≤ 1000) (w : World) : Calls Tryz.prog 70 #[.agg #[.int .i64 (n : Int), .int .i64 16, .int .i64 1, .int .i64 1]] w (NewG 76 178 79 w (cfR n)) := gnew_yes (cfR n) w (cfR_may h0 h1)
/-- Kinds. -/
def Kinds (ks : List Int) : Prop := ∀ j, 0 ≤ nth ks j ∧ nth ks j < 256
theorem seewordB (p : Pl) (c : Cf) (s : St) (b v : Nat) (x z y : Int) (w : World) (hG : G w p c s) (hb : b < c.N) (hv : v < c.W) (hx : x = (b : Int)) (hz : z = (v : Int)) (hy : nth s.zs (adr c b v) = y) :
    Calls Tryz.prog 125 #[.pointer (some ⟨p.a, 0, none⟩), .int .i64 x, .int .i64 z] w fun e w' => e = .returned (.int .u32 y) ∧ Below w.heap.size w w' :=
  (seewordW p c s b v x z y w hG hb hv hx hz hy).mono fun e w' h => ⟨h.1, h.2.new⟩
theorem u64m_add (m d : Nat) (h : d ≤ 1000000) : IntKind.u64.wrap (u64m (m + d) - u64m m) = (d : Int) := by
  rw [IntKind.wrap_u64]; unfold u64m; omega
theorem fresh_outG {w : World} {p : Pl} {c : Cf} {s : St} (hG : G w p c s) {a : Option Addr} {zs : List Int} (hf : ∀ b off, a = some ⟨b, off, none⟩ → w.heap.size ≤ b) : RowOut (inG p) a zs := by
  intro _ b off ha hx
  have h1 := hf b off ha
  have := hG.ofG_lt (Or.inr hx)
  omega
theorem NewRow.nats {w w' : World} {l : List Nat} {zs : List Int} {e : Ending} (h : NewRow w zs e w') (hz : zs = Pk.ints l) : NewNats l w e w' := by
  subst hz
  obtain ⟨a, cap, h1, h2, h3, h4⟩ := h
  rw [ints_length] at h1
  exact ⟨a, cap, h1, h2, h3, h4⟩
theorem rHas (a : Option Addr) (cap : Nat) (l : List Nat) (b : Int) (w : World) (hr : Row w .i64 a (ints l)) (hl : l.length ≤ 9000) :
    Calls Tryz.prog 186 #[.slice a l.length cap, .int .i64 b] w fun e w' => e = .returned (.bool (hasB (ints l) b)) ∧ w = w' := by
  have := rcHas_any a cap (ints l) b w hr (by rw [ints_length]; unfold maxLen; omega)
  rw [ints_length] at this
  exact this
theorem rBehind (a : Option Addr) (cap : Nat) (l : List Nat) (b : Nat) (w : World) (hr : Row w .i64 a (ints l)) (hl : l.length ≤ 9000) :
    Calls Tryz.prog 187 #[.slice a l.length cap, .int .i64 (b : Int)] w (NewNats (l ++ [b]) w) := by
  have := rcBehind_any a cap (ints l) (b : Int) w hr (by rw [ints_length]; omega)
  rw [ints_length] at this
  exact this.mono (fun e w' h => h.nats (by simp [ints]))
theorem rRest (a : Option Addr) (cap : Nat) (b : Nat) (l : List Nat) (w : World) (hr : Row w .i64 a (ints (b :: l))) (hl : (b :: l).length ≤ 9000) :
    Calls Tryz.prog 148 #[.slice a (b :: l).length cap] w (NewNats l w) := by
  have := rcRest_any a cap (ints (b :: l)) w hr (by rw [ints_length]; omega) (by rw [ints_length]; simp)
  rw [ints_length] at this
  exact this.mono (fun e w' h => h.nats (by simp [ints]))
theorem hasB_nat {l : List Nat} {b : Int} (h : hasB (ints l) b = true) : ∃ k : Nat, b = (k : Int) ∧ k ∈ l := by
  unfold hasB ints at h
  rw [List.any_map, List.any_eq_true] at h
  obtain ⟨x, hx, he⟩ := h
  exact ⟨x, by have h2 := he; simp at h2; omega, hx⟩
theorem Kinds.of {ks : List Int} (h : ∀ x, x ∈ ks → 0 ≤ x ∧ x < 256) : Kinds ks := by
  intro j
  by_cases hj : j < ks.length
  · unfold nth; simp [List.getD, hj]; exact h _ (List.getElem_mem hj)
  · rw [nth_out (by omega)]; omega
theorem infoU8 : (Tryz.prog.info? 5).map (fun i => (i.zero, i.size, i.bytes)) = some (some (.int .u8 0), 1, 1) := by kernel_rfl
theorem infoB : (Tryz.prog.info? 4).map (fun i => (i.zero, i.size, i.bytes)) = some (some (.bool false), 1, 1) := by kernel_rfl
theorem make_u8 (n : Nat) (hn : n ≤ 255) (w : World) : (Instr.makeSlice 24 (.int .u8 (n : Int)) (.int .u8 (n : Int))).run Tryz.prog w = .ok (.slice (some ⟨w.heap.size, 0, none⟩) n n) (w.alloc (.cells (arrV (fun _ => .int .u8 0) n) 5)) := by
  obtain ⟨i0, hi, hz0, hz1, hz2⟩ := info_parts infoU8
  have := run_make w 24 5 i0 (.int .u8 0) Tryz.underlying24 hi hz0 .u8 .u8 (n : Int) (n : Int) (by omega) (Int.le_refl _) (by rw [hz2]; omega) (by omega)
  rw [this, hz1, ← made_arr _ rfl]
  simp
theorem rFront (a : Option Addr) (cap : Nat) (l : List Nat) (b : Nat) (w : World) (hr : Row w .i64 a (ints l)) (hl : l.length ≤ 9000) :
    Calls Tryz.prog 192 #[.slice a l.length cap, .int .i64 (b : Int)] w (NewNats (b :: l) w) := by
  have := rcFront_any a cap (ints l) (b : Int) w hr (by rw [ints_length]; omega)
  rw [ints_length] at this
  exact this.mono (fun e w' h => h.nats rfl)
theorem asBQ {f : FuncId} {args : Array Value} {w : World} {a b : Bool} {Q : World → Prop} (h : Calls Tryz.prog f args w fun e w' => e = .returned (.bool a) ∧ Q w') (hab : a = b) :
    Calls Tryz.prog f args w fun e w' => e = .returned (.bool b) ∧ Q w' := hab ▸ h
theorem cf_ofC {n v r k : Int} (h : mayB n v r k = true) : ∃ c : Cf, c.May ∧ n = (c.N : Int) ∧ v = (c.W : Int) ∧ r = (c.R : Int) ∧ k = (c.K : Int) := by
  have hm := may_of h
  have h1 := hm.n0; have h2 := hm.w0; have h3 := hm.r0; have h4 := hm.k0
  obtain ⟨n', rfl⟩ := Int.eq_ofNat_of_zero_le (show 0 ≤ n by omega)
  obtain ⟨v', rfl⟩ := Int.eq_ofNat_of_zero_le (show 0 ≤ v by omega)
  obtain ⟨r', rfl⟩ := Int.eq_ofNat_of_zero_le (show 0 ≤ r by omega)
  obtain ⟨k', rfl⟩ := Int.eq_ofNat_of_zero_le (show 0 ≤ k by omega)
  exact ⟨⟨n', v', r', k'⟩, hm, rfl, rfl, rfl, rfl⟩
theorem take_not {l : List Nat} {k : Nat} (h : l.Nodup) (hk : k < l.length) : l[k] ∉ l.take k := by
  have h2 : (l.take k ++ l[k] :: l.drop (k + 1)).Nodup := by rw [← List.drop_eq_getElem_cons hk, List.take_append_drop]; exact h
  rw [List.nodup_append] at h2
  exact fun hm => h2.2.2 _ hm l[k] List.mem_cons_self rfl
theorem mem_take_succ {l : List Nat} {k : Nat} (hk : k < l.length) (x : Nat) : x ∈ l.take (k + 1) ↔ x ∈ l.take k ∨ x = l[k] := by
  rw [List.take_succ_eq_append_getElem hk, List.mem_append, List.mem_singleton]

end Go.Proofs.YtljdbaddockfcaaGreat.Pk
