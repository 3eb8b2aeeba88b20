/-
  The program's store.
-/
import Derived.Test.YtgfpcamgebnfmaaRefSto
import Derived.Laws.LoneSync
import Derived.Laws.Pointers
namespace Go.Proofs.Ytgfpcamgebnfmaa.Pk
open Go.RowKit
set_option linter.unusedVariables false
set_option linter.unusedSimpArgs false

theorem u64Add_any (a : Addr) (m : Int) (w : World) (hc : w.cell? a = some (.int .u64 m)) (hz : w.frozen? a = false) (h0 : 0 ≤ m) (h1 : m < 1000000) :
    Calls Try.prog 61 #[.pointer (some a), .int .u64 1] w fun e w' => e = .returned (.int .u64 (m + 1)) ∧ w' = w.setCell a (.int .u64 (m + 1)) := by
  have hadd := run_call_add (P := Try.prog) Try.func74 (by kernel_rfl) (by kernel_rfl) (by kernel_rfl) .u64 (by kernel_rfl) (y := 1) (s := m + 1) hc hz (by
    have e : IntKind.u64.wrap (m + 1) = m + 1 := by unfold IntKind.wrap; simp [IntKind.signed, IntKind.bits]; omega
    simp [go_sem, e])
  clear hc hz
  go_enter Try.func61, Try.ntmps61
  go_wp2
  go_ret
  exact ⟨rfl, rfl⟩
theorem u64Load_any (a : Addr) (m : Int) (w : World) (hc : w.cell? a = some (.int .u64 m)) :
    Calls Try.prog 68 #[.pointer (some a)] w fun e w' => e = .returned (.int .u64 m) ∧ w = w' := by
  have hl := run_call_load (P := Try.prog) Try.func76 (by kernel_rfl) (by kernel_rfl) (by kernel_rfl) .u64 (by kernel_rfl) hc
  clear hc
  go_enter Try.func68, Try.ntmps68
  go_wp2
  go_ret
  exact ⟨rfl, rfl⟩

theorem has_yes (s g : Nat) (zs : List Int) (m : Int) (k : Nat) (w : World) (hS : Sto w 87 36 s g zs m) (hk : k < zs.length) :
    Calls Try.prog 60 #[.pointer (some ⟨s, 0, none⟩), .int .i64 (k : Int)] w fun e w' => e = .returned (.bool true) ∧ w = w' := by
  have c0 := hS.slice
  clear hS
  go_enter Try.func60, Try.ntmps60
  go_wp2
  go_ret
  exact ⟨ret_bool (by simp), rfl⟩

theorem has_no (s g : Nat) (zs : List Int) (m i : Int) (w : World) (hS : Sto w 87 36 s g zs m) (hi : i < 0 ∨ (zs.length : Int) ≤ i) :
    Calls Try.prog 60 #[.pointer (some ⟨s, 0, none⟩), .int .i64 i] w fun e w' => e = .returned (.bool false) ∧ w = w' := by
  have c0 := hS.slice
  clear hS
  rcases hi with hi | hi
  · go_enter Try.func60, Try.ntmps60
    go_wp2
    go_ret
    exact ⟨ret_bool (by simp), rfl⟩
  · have h0 : 0 ≤ i := by omega
    go_enter Try.func60, Try.ntmps60
    go_wp2
    go_ret
    exact ⟨ret_bool (by simp; omega), rfl⟩

theorem st_get_yes (s g : Nat) (zs : List Int) (m : Int) (k : Nat) (w : World) (hS : Sto w 87 36 s g zs m) (hk : k < zs.length) (h0 : 0 ≤ m) (h1 : m < 1000000) :
    Calls Try.prog 56 #[.pointer (some ⟨s, 0, none⟩), .int .i64 (k : Int)] w (StoPost w 87 36 s g zs (m + 1) (.int .u32 (nth zs k))) := by
  have c0 := hS.slice
  have c1 := hS.meter
  have cw := hS.word hk
  have f1 := hS.head.free 1
  have hsg := hS.apart
  have HS := Lib.hid hS
  clear hS
  go_enter Try.func56, Try.ntmps56
  go_wp2_with fail
  refine (has_yes s g zs m k _ HS.out hk).mono ?_
  rintro e w1 ⟨rfl, rfl⟩
  go_wp2_with fail
  refine (u64Add_any ⟨s, 1, none⟩ m _ c1 f1 h0 h1).mono ?_
  rintro e w1 ⟨rfl, rfl⟩
  go_wp2_with fail
  go_ret
  exact ⟨rfl, HS.out.count _, (Touch.refl _ _).setCell (p := ⟨s, 1, none⟩) (fun _ => .inl rfl) _⟩

theorem st_get_no (s g : Nat) (zs : List Int) (m i : Int) (w : World) (hS : Sto w 87 36 s g zs m) (hi : i < 0 ∨ (zs.length : Int) ≤ i) :
    Calls Try.prog 56 #[.pointer (some ⟨s, 0, none⟩), .int .i64 i] w fun e w' => e = .returned (.int .u32 0) ∧ w = w' := by
  have HS := Lib.hid hS
  have HI := Lib.hid hi
  clear hS hi
  go_enter Try.func56, Try.ntmps56
  go_wp2_with fail
  refine (has_no s g zs m i _ HS.out HI.out).mono ?_
  rintro e w1 ⟨rfl, rfl⟩
  go_wp2_with fail
  go_ret
  exact ⟨rfl, rfl⟩

theorem st_put_no (s g : Nat) (zs : List Int) (m i v : Int) (w : World) (hS : Sto w 87 36 s g zs m) (hi : i < 0 ∨ (zs.length : Int) ≤ i) :
    Calls Try.prog 37 #[.pointer (some ⟨s, 0, none⟩), .int .i64 i, .int .u32 v] w fun e w' => e = .returned (.bool false) ∧ w = w' := by
  have HS := Lib.hid hS
  have HI := Lib.hid hi
  clear hS hi
  go_enter Try.func37, Try.ntmps37
  go_wp2_with fail
  refine (has_no s g zs m i _ HS.out HI.out).mono ?_
  rintro e w1 ⟨rfl, rfl⟩
  go_wp2_with fail
  go_ret
  exact ⟨rfl, rfl⟩

theorem st_put_yes (s g : Nat) (zs : List Int) (m v : Int) (k : Nat) (w : World) (hS : Sto w 87 36 s g zs m) (hk : k < zs.length) (h0 : 0 ≤ m) (h1 : m < 1000000) :
    Calls Try.prog 37 #[.pointer (some ⟨s, 0, none⟩), .int .i64 (k : Int), .int .u32 v] w (StoPost w 87 36 s g (zs.set k v) (m + 1) (.bool true)) := by
  have c0 := hS.slice
  have c1 := hS.meter
  have cw := hS.word hk
  have f1 := hS.head.free 1
  have fk := hS.body.free k
  have hsg := hS.apart
  have hgs : ¬ g = s := fun e => hsg e.symm
  have HS := Lib.hid hS
  clear hS
  go_enter Try.func37, Try.ntmps37
  go_wp2_with fail
  refine (has_yes s g zs m k _ HS.out hk).mono ?_
  rintro e w1 ⟨rfl, rfl⟩
  go_wp2_with fail
  refine (u64Add_any ⟨s, 1, none⟩ m _ c1 f1 h0 h1).mono ?_
  rintro e w1 ⟨rfl, rfl⟩
  go_wp2_with fail
  go_ret
  exact ⟨rfl, (HS.out.count _).put k v, ((Touch.refl _ _).setCell (p := ⟨s, 1, none⟩) (fun _ => .inl rfl) _).setCell (p := ⟨g, k, none⟩) (fun _ => .inr rfl) _⟩

theorem peek_yes (s g : Nat) (zs : List Int) (m : Int) (k : Nat) (w : World) (hS : Sto w 87 36 s g zs m) (hk : k < zs.length) :
    Calls Try.prog 51 #[.pointer (some ⟨s, 0, none⟩), .int .i64 (k : Int)] w fun e w' => e = .returned (.int .u32 (nth zs k)) ∧ w = w' := by
  have c0 := hS.slice
  have cw := hS.word hk
  have HS := Lib.hid hS
  clear hS
  go_enter Try.func51, Try.ntmps51
  go_wp2_with fail
  refine (has_yes s g zs m k _ HS.out hk).mono ?_
  rintro e w1 ⟨rfl, rfl⟩
  go_wp2_with fail
  go_ret
  exact ⟨rfl, rfl⟩
theorem peek_no (s g : Nat) (zs : List Int) (m i : Int) (w : World) (hS : Sto w 87 36 s g zs m) (hi : i < 0 ∨ (zs.length : Int) ≤ i) :
    Calls Try.prog 51 #[.pointer (some ⟨s, 0, none⟩), .int .i64 i] w fun e w' => e = .returned (.int .u32 0) ∧ w = w' := by
  have HS := Lib.hid hS
  have HI := Lib.hid hi
  clear hS hi
  go_enter Try.func51, Try.ntmps51
  go_wp2_with fail
  refine (has_no s g zs m i _ HS.out HI.out).mono ?_
  rintro e w1 ⟨rfl, rfl⟩
  go_wp2_with fail
  go_ret
  exact ⟨rfl, rfl⟩
theorem len_any (s g : Nat) (zs : List Int) (m : Int) (w : World) (hS : Sto w 87 36 s g zs m) :
    Calls Try.prog 73 #[.pointer (some ⟨s, 0, none⟩)] w fun e w' => e = .returned (.int .i64 (zs.length : Int)) ∧ w = w' := by
  have c0 := hS.slice
  clear hS
  go_enter Try.func73, Try.ntmps73
  go_wp2
  go_ret
  exact ⟨rfl, rfl⟩
theorem meter_any (s g : Nat) (zs : List Int) (m : Int) (w : World) (hS : Sto w 87 36 s g zs m) :
    Calls Try.prog 48 #[.pointer (some ⟨s, 0, none⟩)] w fun e w' => e = .returned (.int .u64 m) ∧ w = w' := by
  have c1 := hS.meter
  clear hS
  go_enter Try.func48, Try.ntmps48
  go_wp2_with fail
  refine (u64Load_any ⟨s, 1, none⟩ m _ c1).mono ?_
  rintro e w1 ⟨rfl, rfl⟩
  go_wp2_with fail
  go_ret
  exact ⟨rfl, rfl⟩

/-- A new store, or why not. -/
def NewStore (w : World) (t e : TypeId) (n : Nat) (en : Ending) (w' : World) : Prop :=
  ∃ s g, en = .returned (.tuple #[.pointer (some ⟨s, 0, none⟩), .int .i64 0]) ∧ Sto w' t e s g (List.replicate n 0) 0 ∧ w.heap.size ≤ s ∧ w.heap.size ≤ g ∧ Below w.heap.size w w'
theorem new_yes (n : Nat) (w : World) (hn : n ≤ 8388608) :
    Calls Try.prog 20 #[.int .i64 (n : Int)] w (NewStore w 87 36 n) := by
  have hmk := make_words n (by omega)
  go_enter Try.func20, Try.ntmps20
  go_wp2_with fail
  go_ret2
  refine ⟨w.heap.size + 1, w.heap.size, rfl, ⟨?_, ?_, by omega⟩, by omega, by omega, (below_new w _).alloc (by simp) _⟩
  · have := Blk.new (w.alloc (.cells (words (List.replicate n 0)) 36)) #[.slice (some ⟨w.heap.size, 0, none⟩) n n, .int .u64 0] 87
    simpa using this
  · exact (Blk.new w _ _).alloc _
theorem new_no (n : Int) (w : World) (hn : n < 0 ∨ 8388608 < n) :
    Calls Try.prog 20 #[.int .i64 n] w fun e w' => e = .returned (.tuple #[.pointer none, .int .i64 2]) ∧ w = w' := by
  rcases hn with h | h
  · go_enter Try.func20, Try.ntmps20
    go_wp2
    go_ret2
    exact ⟨rfl, rfl⟩
  · have h0 : ¬ n < 0 := by omega
    go_enter Try.func20, Try.ntmps20
    go_wp2
    go_ret2
    exact ⟨rfl, rfl⟩

/-- All words, in new memory. -/
def NewWords (w : World) (e : TypeId) (zs : List Int) (en : Ending) (w' : World) : Prop :=
  ∃ g, en = .returned (.slice (some ⟨g, 0, none⟩) zs.length zs.length) ∧ Blk w' g (words zs) e ∧ w.heap.size ≤ g ∧ Below w.heap.size w w'

theorem sizeU32 : (Try.prog.info? 36).map (·.size) = some 1 := by kernel_rfl

end Go.Proofs.Ytgfpcamgebnfmaa.Pk
