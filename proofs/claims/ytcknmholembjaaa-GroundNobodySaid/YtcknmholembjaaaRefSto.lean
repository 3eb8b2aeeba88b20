/-
  The document's store.
-/
import Derived.Test.YtcknmholembjaaaProg
import Derived.Test.YtcknmholembjaaaSto
import Derived.IntWalk
import Derived.Outline
import Derived.Laws.MakeOwn
import Derived.OwnWalk
namespace Go.Proofs.Ytcknmholembjaaa.Pk
open Go.RowKit
set_option linter.unusedVariables false
set_option linter.unusedSimpArgs false

set_option maxHeartbeats 400000 in
theorem refHas_yes (s g : Nat) (zs : List Int) (m : Int) (k : Nat) (w : World) (hS : Sto w 41 50 s g zs m) (hk : k < zs.length) :
    Calls Try.prog 54 #[.pointer (some ⟨s, 0, none⟩), .int .i64 (k : Int)] w fun e w' => e = .returned (.bool true) ∧ w = w' := by
  have c0 := hS.slice
  clear hS
  go_enter Try.func54, Try.ntmps54
  go_wp2
  go_ret
  exact ⟨ret_bool (by simp), rfl⟩

theorem refHas_no (s g : Nat) (zs : List Int) (m i : Int) (w : World) (hS : Sto w 41 50 s g zs m) (hi : i < 0 ∨ (zs.length : Int) ≤ i) :
    Calls Try.prog 54 #[.pointer (some ⟨s, 0, none⟩), .int .i64 i] w fun e w' => e = .returned (.bool false) ∧ w = w' := by
  have c0 := hS.slice
  clear hS
  rcases hi with hi | hi
  · go_enter Try.func54, Try.ntmps54
    go_wp2
    go_ret
    exact ⟨ret_bool (by simp), rfl⟩
  · have h0 : 0 ≤ i := by omega
    go_enter Try.func54, Try.ntmps54
    go_wp2
    go_ret
    exact ⟨ret_bool (by simp; omega), rfl⟩

theorem refGet_yes (s g : Nat) (zs : List Int) (m : Int) (k : Nat) (w : World) (hS : Sto w 41 50 s g zs m) (hk : k < zs.length) (h0 : 0 ≤ m) (h1 : m < 1000000) :
    Calls Try.prog 36 #[.pointer (some ⟨s, 0, none⟩), .int .i64 (k : Int)] w (StoPost w 41 50 s g zs (m + 1) (.int .u32 (nth zs k))) := by
  have c0 := hS.slice
  have c1 := hS.meter
  have cw := hS.word hk
  have f1 := hS.head.free 1
  have hsg := hS.apart
  have HS := Lib.hid hS
  clear hS
  go_enter Try.func36, Try.ntmps36
  go_wp2_with fail
  refine (refHas_yes s g zs m k _ HS.out hk).mono ?_
  rintro e w1 ⟨rfl, rfl⟩
  go_wp2_with fail
  go_ret
  exact ⟨rfl, HS.out.count _, (Touch.refl _ _).setCell (p := ⟨s, 1, none⟩) (fun _ => .inl rfl) _⟩

theorem refGet_no (s g : Nat) (zs : List Int) (m i : Int) (w : World) (hS : Sto w 41 50 s g zs m) (hi : i < 0 ∨ (zs.length : Int) ≤ i) :
    Calls Try.prog 36 #[.pointer (some ⟨s, 0, none⟩), .int .i64 i] w fun e w' => e = .returned (.int .u32 0) ∧ w = w' := by
  have HS := Lib.hid hS
  have HI := Lib.hid hi
  clear hS hi
  go_enter Try.func36, Try.ntmps36
  go_wp2_with fail
  refine (refHas_no s g zs m i _ HS.out HI.out).mono ?_
  rintro e w1 ⟨rfl, rfl⟩
  go_wp2_with fail
  go_ret
  exact ⟨rfl, rfl⟩

theorem refPut_no (s g : Nat) (zs : List Int) (m i v : Int) (w : World) (hS : Sto w 41 50 s g zs m) (hi : i < 0 ∨ (zs.length : Int) ≤ i) :
    Calls Try.prog 55 #[.pointer (some ⟨s, 0, none⟩), .int .i64 i, .int .u32 v] w fun e w' => e = .returned (.bool false) ∧ w = w' := by
  have HS := Lib.hid hS
  have HI := Lib.hid hi
  clear hS hi
  go_enter Try.func55, Try.ntmps55
  go_wp2_with fail
  refine (refHas_no s g zs m i _ HS.out HI.out).mono ?_
  rintro e w1 ⟨rfl, rfl⟩
  go_wp2_with fail
  go_ret
  exact ⟨rfl, rfl⟩

theorem refPut_yes (s g : Nat) (zs : List Int) (m v : Int) (k : Nat) (w : World) (hS : Sto w 41 50 s g zs m) (hk : k < zs.length) (h0 : 0 ≤ m) (h1 : m < 1000000) :
    Calls Try.prog 55 #[.pointer (some ⟨s, 0, none⟩), .int .i64 (k : Int), .int .u32 v] w (StoPost w 41 50 s g (zs.set k v) (m + 1) (.bool true)) := by
  have c0 := hS.slice
  have c1 := hS.meter
  have cw := hS.word hk
  have f1 := hS.head.free 1
  have fk := hS.body.free k
  have hsg := hS.apart
  have hgs : ¬ g = s := fun e => hsg e.symm
  have HS := Lib.hid hS
  clear hS
  go_enter Try.func55, Try.ntmps55
  go_wp2_with fail
  refine (refHas_yes s g zs m k _ HS.out hk).mono ?_
  rintro e w1 ⟨rfl, rfl⟩
  go_wp2_with fail
  go_ret
  exact ⟨rfl, (HS.out.count _).put k v, ((Touch.refl _ _).setCell (p := ⟨s, 1, none⟩) (fun _ => .inl rfl) _).setCell (p := ⟨g, k, none⟩) (fun _ => .inr rfl) _⟩

theorem infoU32 : (Try.prog.info? 50).map (fun i => (i.zero, i.size, i.bytes)) = some (some (.int .u32 0), 1, 4) := by kernel_rfl
theorem made_words (n : Nat) : madeCells (Value.int .u32 0).cells (n * 1) = words (List.replicate n 0) := by
  unfold words madeCells
  have e : ∀ x : Nat, (Value.int .u32 0).cells[x % (Value.int .u32 0).cells.size]! = Value.int .u32 0 := by
    intro x
    rw [show (Value.int .u32 0).cells = #[Value.int .u32 0] from rfl]
    simp [Nat.mod_one]
  simp only [e]
  apply Array.ext <;> simp
theorem make_words (n : Nat) (hn : n ≤ 10000000) (w : World) : (Instr.makeSlice 39 (.int .i64 (n : Int)) (.int .i64 (n : Int))).run Try.prog w = .ok (.slice (some ⟨w.heap.size, 0, none⟩) n n) (w.alloc (.cells (words (List.replicate n 0)) 50)) := by
  obtain ⟨i0, hi, hz0, hz1, hz2⟩ := info_parts infoU32
  have := run_make w 39 50 i0 (.int .u32 0) Try.underlying39 hi hz0 .i64 .i64 (n : Int) (n : Int) (by omega) (Int.le_refl _) (by rw [hz2]; omega) (by omega)
  rw [this, hz1, ← made_words]
  simp

/-- A new store of so many words. -/
def NewSto (w : World) (t e : TypeId) (n : Nat) (en : Ending) (w' : World) : Prop :=
  ∃ s g, en = .returned (.pointer (some ⟨s, 0, none⟩)) ∧ Sto w' t e s g (List.replicate n 0) 0 ∧ w.heap.size ≤ s ∧ w.heap.size ≤ g ∧ Below w.heap.size w w'

set_option maxHeartbeats 400000 in
theorem refNew_any (n : Nat) (w : World) (hn : n ≤ 10000000) :
    Calls Try.prog 32 #[.int .i64 (n : Int)] w (NewSto w 41 50 n) := by
  have hmk := make_words n hn
  go_enter Try.func32, Try.ntmps32
  go_wp2_with fail
  go_ret
  refine ⟨w.heap.size + 1, w.heap.size, rfl, ⟨?_, ?_, by omega⟩, by omega, by omega, (below_new w _).alloc (by simp) _⟩
  · have := Blk.new (w.alloc (.cells (words (List.replicate n 0)) 50)) #[.slice (some ⟨w.heap.size, 0, none⟩) n n, .int .u64 0] 41
    simpa using this
  · exact (Blk.new w _ _).alloc _

end Go.Proofs.Ytcknmholembjaaa.Pk
