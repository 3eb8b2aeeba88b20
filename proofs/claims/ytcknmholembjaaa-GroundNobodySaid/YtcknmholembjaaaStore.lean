/-
  The program's store.
-/
import Derived.Test.YtcknmholembjaaaRefSto
import Derived.Laws.LoneSync
import Derived.Laws.Pointers
namespace Go.Proofs.Ytcknmholembjaaa.Pk
open Go.RowKit
set_option linter.unusedVariables false
set_option linter.unusedSimpArgs false

theorem u64Add_any (a : Addr) (m : Int) (w : World) (hc : w.cell? a = some (.int .u64 m)) (hz : w.frozen? a = false) (h0 : 0 ≤ m) (h1 : m < 1000000) :
    Calls Try.prog 59 #[.pointer (some a), .int .u64 1] w fun e w' => e = .returned (.int .u64 (m + 1)) ∧ w' = w.setCell a (.int .u64 (m + 1)) := by
  have hadd := run_call_add (P := Try.prog) Try.func66 (by kernel_rfl) (by kernel_rfl) (by kernel_rfl) .u64 (by kernel_rfl) (y := 1) (s := m + 1) hc hz (by
    have e : IntKind.u64.wrap (m + 1) = m + 1 := by unfold IntKind.wrap; simp [IntKind.signed, IntKind.bits]; omega
    simp [go_sem, e])
  clear hc hz
  go_enter Try.func59, Try.ntmps59
  go_wp2
  go_ret
  exact ⟨rfl, rfl⟩
theorem u64Load_any (a : Addr) (m : Int) (w : World) (hc : w.cell? a = some (.int .u64 m)) :
    Calls Try.prog 56 #[.pointer (some a)] w fun e w' => e = .returned (.int .u64 m) ∧ w = w' := by
  have hl := run_call_load (P := Try.prog) Try.func64 (by kernel_rfl) (by kernel_rfl) (by kernel_rfl) .u64 (by kernel_rfl) hc
  clear hc
  go_enter Try.func56, Try.ntmps56
  go_wp2
  go_ret
  exact ⟨rfl, rfl⟩

theorem has_yes (s g : Nat) (zs : List Int) (m : Int) (k : Nat) (w : World) (hS : Sto w 89 50 s g zs m) (hk : k < zs.length) :
    Calls Try.prog 58 #[.pointer (some ⟨s, 0, none⟩), .int .i64 (k : Int)] w fun e w' => e = .returned (.bool true) ∧ w = w' := by
  have c0 := hS.slice
  clear hS
  go_enter Try.func58, Try.ntmps58
  go_wp2
  go_ret
  exact ⟨ret_bool (by simp), rfl⟩

theorem has_no (s g : Nat) (zs : List Int) (m i : Int) (w : World) (hS : Sto w 89 50 s g zs m) (hi : i < 0 ∨ (zs.length : Int) ≤ i) :
    Calls Try.prog 58 #[.pointer (some ⟨s, 0, none⟩), .int .i64 i] w fun e w' => e = .returned (.bool false) ∧ w = w' := by
  have c0 := hS.slice
  clear hS
  rcases hi with hi | hi
  · go_enter Try.func58, Try.ntmps58
    go_wp2
    go_ret
    exact ⟨ret_bool (by simp), rfl⟩
  · have h0 : 0 ≤ i := by omega
    go_enter Try.func58, Try.ntmps58
    go_wp2
    go_ret
    exact ⟨ret_bool (by simp; omega), rfl⟩

theorem get_yes (s g : Nat) (zs : List Int) (m : Int) (k : Nat) (w : World) (hS : Sto w 89 50 s g zs m) (hk : k < zs.length) (h0 : 0 ≤ m) (h1 : m < 1000000) :
    Calls Try.prog 44 #[.pointer (some ⟨s, 0, none⟩), .int .i64 (k : Int)] w (StoPost w 89 50 s g zs (m + 1) (.int .u32 (nth zs k))) := by
  have c0 := hS.slice
  have c1 := hS.meter
  have cw := hS.word hk
  have f1 := hS.head.free 1
  have hsg := hS.apart
  have HS := Lib.hid hS
  clear hS
  go_enter Try.func44, Try.ntmps44
  go_wp2_with fail
  refine (has_yes s g zs m k _ HS.out hk).mono ?_
  rintro e w1 ⟨rfl, rfl⟩
  go_wp2_with fail
  refine (u64Add_any ⟨s, 1, none⟩ m _ c1 f1 h0 h1).mono ?_
  rintro e w1 ⟨rfl, rfl⟩
  go_wp2_with fail
  go_ret
  exact ⟨rfl, HS.out.count _, (Touch.refl _ _).setCell (p := ⟨s, 1, none⟩) (fun _ => .inl rfl) _⟩

theorem get_no (s g : Nat) (zs : List Int) (m i : Int) (w : World) (hS : Sto w 89 50 s g zs m) (hi : i < 0 ∨ (zs.length : Int) ≤ i) :
    Calls Try.prog 44 #[.pointer (some ⟨s, 0, none⟩), .int .i64 i] w fun e w' => e = .returned (.int .u32 0) ∧ w = w' := by
  have HS := Lib.hid hS
  have HI := Lib.hid hi
  clear hS hi
  go_enter Try.func44, Try.ntmps44
  go_wp2_with fail
  refine (has_no s g zs m i _ HS.out HI.out).mono ?_
  rintro e w1 ⟨rfl, rfl⟩
  go_wp2_with fail
  go_ret
  exact ⟨rfl, rfl⟩

theorem put_no (s g : Nat) (zs : List Int) (m i v : Int) (w : World) (hS : Sto w 89 50 s g zs m) (hi : i < 0 ∨ (zs.length : Int) ≤ i) :
    Calls Try.prog 46 #[.pointer (some ⟨s, 0, none⟩), .int .i64 i, .int .u32 v] w fun e w' => e = .returned (.bool false) ∧ w = w' := by
  have HS := Lib.hid hS
  have HI := Lib.hid hi
  clear hS hi
  go_enter Try.func46, Try.ntmps46
  go_wp2_with fail
  refine (has_no s g zs m i _ HS.out HI.out).mono ?_
  rintro e w1 ⟨rfl, rfl⟩
  go_wp2_with fail
  go_ret
  exact ⟨rfl, rfl⟩

theorem put_yes (s g : Nat) (zs : List Int) (m v : Int) (k : Nat) (w : World) (hS : Sto w 89 50 s g zs m) (hk : k < zs.length) (h0 : 0 ≤ m) (h1 : m < 1000000) :
    Calls Try.prog 46 #[.pointer (some ⟨s, 0, none⟩), .int .i64 (k : Int), .int .u32 v] w (StoPost w 89 50 s g (zs.set k v) (m + 1) (.bool true)) := by
  have c0 := hS.slice
  have c1 := hS.meter
  have cw := hS.word hk
  have f1 := hS.head.free 1
  have fk := hS.body.free k
  have hsg := hS.apart
  have hgs : ¬ g = s := fun e => hsg e.symm
  have HS := Lib.hid hS
  clear hS
  go_enter Try.func46, Try.ntmps46
  go_wp2_with fail
  refine (has_yes s g zs m k _ HS.out hk).mono ?_
  rintro e w1 ⟨rfl, rfl⟩
  go_wp2_with fail
  refine (u64Add_any ⟨s, 1, none⟩ m _ c1 f1 h0 h1).mono ?_
  rintro e w1 ⟨rfl, rfl⟩
  go_wp2_with fail
  go_ret
  exact ⟨rfl, (HS.out.count _).put k v, ((Touch.refl _ _).setCell (p := ⟨s, 1, none⟩) (fun _ => .inl rfl) _).setCell (p := ⟨g, k, none⟩) (fun _ => .inr rfl) _⟩

theorem peek_yes (s g : Nat) (zs : List Int) (m : Int) (k : Nat) (w : World) (hS : Sto w 89 50 s g zs m) (hk : k < zs.length) :
    Calls Try.prog 49 #[.pointer (some ⟨s, 0, none⟩), .int .i64 (k : Int)] w fun e w' => e = .returned (.int .u32 (nth zs k)) ∧ w = w' := by
  have c0 := hS.slice
  have cw := hS.word hk
  have HS := Lib.hid hS
  clear hS
  go_enter Try.func49, Try.ntmps49
  go_wp2_with fail
  refine (has_yes s g zs m k _ HS.out hk).mono ?_
  rintro e w1 ⟨rfl, rfl⟩
  go_wp2_with fail
  go_ret
  exact ⟨rfl, rfl⟩
theorem peek_no (s g : Nat) (zs : List Int) (m i : Int) (w : World) (hS : Sto w 89 50 s g zs m) (hi : i < 0 ∨ (zs.length : Int) ≤ i) :
    Calls Try.prog 49 #[.pointer (some ⟨s, 0, none⟩), .int .i64 i] w fun e w' => e = .returned (.int .u32 0) ∧ w = w' := by
  have HS := Lib.hid hS
  have HI := Lib.hid hi
  clear hS hi
  go_enter Try.func49, Try.ntmps49
  go_wp2_with fail
  refine (has_no s g zs m i _ HS.out HI.out).mono ?_
  rintro e w1 ⟨rfl, rfl⟩
  go_wp2_with fail
  go_ret
  exact ⟨rfl, rfl⟩
theorem len_any (s g : Nat) (zs : List Int) (m : Int) (w : World) (hS : Sto w 89 50 s g zs m) :
    Calls Try.prog 65 #[.pointer (some ⟨s, 0, none⟩)] w fun e w' => e = .returned (.int .i64 (zs.length : Int)) ∧ w = w' := by
  have c0 := hS.slice
  clear hS
  go_enter Try.func65, Try.ntmps65
  go_wp2
  go_ret
  exact ⟨rfl, rfl⟩
theorem meter_any (s g : Nat) (zs : List Int) (m : Int) (w : World) (hS : Sto w 89 50 s g zs m) :
    Calls Try.prog 40 #[.pointer (some ⟨s, 0, none⟩)] w fun e w' => e = .returned (.int .u64 m) ∧ w = w' := by
  have c1 := hS.meter
  clear hS
  go_enter Try.func40, Try.ntmps40
  go_wp2_with fail
  refine (u64Load_any ⟨s, 1, none⟩ m _ c1).mono ?_
  rintro e w1 ⟨rfl, rfl⟩
  go_wp2_with fail
  go_ret
  exact ⟨rfl, rfl⟩

/-- A new store, or why not. -/
def NewStore (w : World) (t e : TypeId) (n : Nat) (en : Ending) (w' : World) : Prop :=
  ∃ s g, en = .returned (.tuple #[.pointer (some ⟨s, 0, none⟩), .int .i64 0]) ∧ Sto w' t e s g (List.replicate n 0) 0 ∧ w.heap.size ≤ s ∧ w.heap.size ≤ g ∧ Below w.heap.size w w'
theorem new_yes (n : Nat) (w : World) (hn : n ≤ 8388608) :
    Calls Try.prog 31 #[.int .i64 (n : Int)] w (NewStore w 89 50 n) := by
  have hmk := make_words n (by omega)
  go_enter Try.func31, Try.ntmps31
  go_wp2_with fail
  go_ret2
  refine ⟨w.heap.size + 1, w.heap.size, rfl, ⟨?_, ?_, by omega⟩, by omega, by omega, (below_new w _).alloc (by simp) _⟩
  · have := Blk.new (w.alloc (.cells (words (List.replicate n 0)) 50)) #[.slice (some ⟨w.heap.size, 0, none⟩) n n, .int .u64 0] 89
    simpa using this
  · exact (Blk.new w _ _).alloc _
theorem new_no (n : Int) (w : World) (hn : n < 0 ∨ 8388608 < n) :
    Calls Try.prog 31 #[.int .i64 n] w fun e w' => e = .returned (.tuple #[.pointer none, .int .i64 2]) ∧ w = w' := by
  rcases hn with h | h
  · go_enter Try.func31, Try.ntmps31
    go_wp2
    go_ret2
    exact ⟨rfl, rfl⟩
  · have h0 : ¬ n < 0 := by omega
    go_enter Try.func31, Try.ntmps31
    go_wp2
    go_ret2
    exact ⟨rfl, rfl⟩

/-- All words, in new memory. -/
def NewWords (w : World) (e : TypeId) (zs : List Int) (en : Ending) (w' : World) : Prop :=
  ∃ g, en = .returned (.slice (some ⟨g, 0, none⟩) zs.length zs.length) ∧ Blk w' g (words zs) e ∧ w.heap.size ≤ g ∧ Below w.heap.size w w'

theorem sizeU32 : (Try.prog.info? 50).map (·.size) = some 1 := by kernel_rfl

theorem words_any (s g : Nat) (zs : List Int) (m : Int) (w : World) (hS : Sto w 89 50 s g zs m) (hn : zs.length ≤ 10000000) :
    Calls Try.prog 41 #[.pointer (some ⟨s, 0, none⟩)] w (NewWords w 50 zs) := by
  have hmk := make_words zs.length hn
  have c0 := hS.slice
  have hsl := hS.head.lt
  have HS := Lib.hid hS
  clear hS
  go_enter Try.func41, Try.ntmps41
  go_wp2_with (with_reducible refine wpList_copy_full rfl (.tmp 12) (.tmp 16) 39 39 rfl 50 Try.underlying39 sizeU32 w.heap.size zs.length zs.length (some ⟨g, 0, none⟩) zs.length 50 (List.replicate zs.length 0) zs rfl rfl (Blk.new w _ _) (by simp) rfl (HS.out.row.alloc _) ?_)
  intro w' hB hT
  go_wp2_with fail
  go_ret
  exact ⟨w.heap.size, rfl, hB, Nat.le_refl _, (below_new w _).trans (hT.below (B := w.heap.size) (fun k hk => by rw [hk]; exact Nat.le_refl _) (by simp))⟩

theorem load_no (s g : Nat) (zs ls : List Int) (m : Int) (a : Option Addr) (cap : Nat) (w : World) (hS : Sto w 89 50 s g zs m) (hn : ¬ ls.length = zs.length) (hm : ls.length ≤ maxLen) (hm2 : zs.length ≤ maxLen) :
    Calls Try.prog 42 #[.pointer (some ⟨s, 0, none⟩), .slice a ls.length cap] w fun e w' => e = .returned (.bool false) ∧ w = w' := by
  unfold maxLen at hm hm2
  have c0 := hS.slice
  have hb : ((ls.length : Int) == (zs.length : Int)) = false := by rw [beq_eq_false_iff_ne]; omega
  clear hS
  go_enter Try.func42, Try.ntmps42
  go_wp2
  go_ret
  exact ⟨rfl, rfl⟩

theorem load_noN (s g n : Nat) (zs ls : List Int) (m : Int) (a : Option Addr) (cap : Nat) (w : World) (hS : Sto w 89 50 s g zs m) (hl : ls.length = n) (hn : ¬ ls.length = zs.length) (hm : n ≤ maxLen) (hm2 : zs.length ≤ maxLen) :
    Calls Try.prog 42 #[.pointer (some ⟨s, 0, none⟩), .slice a n cap] w fun e w' => e = .returned (.bool false) ∧ w = w' := by
  subst hl
  exact load_no s g zs ls m a cap w hS hn hm hm2
theorem load_yes (s g n : Nat) (zs ls : List Int) (m : Int) (a : Option Addr) (cap : Nat) (w : World) (hS : Sto w 89 50 s g zs m) (hn : ls.length = n) (hn2 : zs.length = n) (hrow : Row w .u32 a ls) :
    Calls Try.prog 42 #[.pointer (some ⟨s, 0, none⟩), .slice a n cap] w (StoPost w 89 50 s g ls m (.bool true)) := by
  have c0 := hS.slice
  rw [hn2] at c0
  have HS := Lib.hid hS
  have HN := Lib.hid hn
  have HN2 := Lib.hid hn2
  have HR := Lib.hid hrow
  clear hS hn hn2 hrow
  go_enter Try.func42, Try.ntmps42
  go_wp2_with (with_reducible refine wpList_copy_full rfl (.tmp 20) (.tmp 21) 39 39 rfl 50 Try.underlying39 sizeU32 g n n a cap 50 zs ls rfl rfl HS.out.body HN2.out HN.out HR.out ?_)
  intro w' hB hT
  go_wp2_with fail
  go_ret
  exact ⟨rfl, ⟨by rw [HN.out]; have := HS.out.head.touch hT HS.out.apart; rw [HN2.out] at this; exact this, hB, HS.out.apart⟩, hT.mono fun k _ hk => .inr hk⟩

end Go.Proofs.Ytcknmholembjaaa.Pk
