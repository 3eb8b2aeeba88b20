/-
  Stores whose meter goes round at 2^64: get and put, both ways, however many accesses there were.
-/
import Derived.Test.YtgfpcamgebnfmaaStore
namespace Go.Proofs.Ytgfpcamgebnfmaa.Pk
open Go.RowKit
set_option linter.unusedVariables false
set_option linter.unusedSimpArgs false

/-- What a meter shows behind m accesses. -/
def u64m (m : Nat) : Int := (m : Int) % 18446744073709551616
theorem u64m_step (m : Nat) : IntKind.u64.wrap (u64m m + 1) = u64m (m + 1) := by
  unfold IntKind.wrap u64m
  simp [IntKind.signed, IntKind.bits]
theorem u64m_zero : u64m 0 = 0 := rfl

theorem u64Add_m (a : Addr) (m : Nat) (w : World) (hc : w.cell? a = some (.int .u64 (u64m m))) (hz : w.frozen? a = false) :
    Calls Try.prog 61 #[.pointer (some a), .int .u64 1] w fun e w' => e = .returned (.int .u64 (u64m (m + 1))) ∧ w' = w.setCell a (.int .u64 (u64m (m + 1))) := by
  have hadd := run_call_add (P := Try.prog) Try.func74 (by kernel_rfl) (by kernel_rfl) (by kernel_rfl) .u64 (by kernel_rfl) (y := 1) (s := u64m (m + 1)) hc hz (by simp [go_sem, u64m_step])
  clear hc hz
  go_enter Try.func61, Try.ntmps61
  go_wp2
  go_ret
  exact ⟨rfl, rfl⟩

theorem mget_yes (s g : Nat) (zs : List Int) (m : Nat) (k : Nat) (w : World) (hS : Sto w 87 36 s g zs (u64m m)) (hk : k < zs.length) :
    Calls Try.prog 56 #[.pointer (some ⟨s, 0, none⟩), .int .i64 (k : Int)] w (StoPost w 87 36 s g zs (u64m (m + 1)) (.int .u32 (nth zs k))) := by
  have c0 := hS.slice
  have c1 := hS.meter
  have cw := hS.word hk
  have f1 := hS.head.free 1
  have hsg := hS.apart
  have HS := Lib.hid hS
  clear hS
  go_enter Try.func56, Try.ntmps56
  go_wp2_with fail
  refine (has_yes s g zs _ k _ HS.out hk).mono ?_
  rintro e w1 ⟨rfl, rfl⟩
  go_wp2_with fail
  refine (u64Add_m ⟨s, 1, none⟩ m _ c1 f1).mono ?_
  rintro e w1 ⟨rfl, rfl⟩
  go_wp2_with fail
  go_ret
  exact ⟨rfl, HS.out.count _, (Touch.refl _ _).setCell (p := ⟨s, 1, none⟩) (fun _ => .inl rfl) _⟩

theorem mput_yes (s g : Nat) (zs : List Int) (m : Nat) (v : Int) (k : Nat) (w : World) (hS : Sto w 87 36 s g zs (u64m m)) (hk : k < zs.length) :
    Calls Try.prog 37 #[.pointer (some ⟨s, 0, none⟩), .int .i64 (k : Int), .int .u32 v] w (StoPost w 87 36 s g (zs.set k v) (u64m (m + 1)) (.bool true)) := by
  have c0 := hS.slice
  have c1 := hS.meter
  have cw := hS.word hk
  have f1 := hS.head.free 1
  have fk := hS.body.free k
  have hsg := hS.apart
  have hgs : ¬ g = s := fun e => hsg e.symm
  have HS := Lib.hid hS
  clear hS
  go_enter Try.func37, Try.ntmps37
  go_wp2_with fail
  refine (has_yes s g zs _ k _ HS.out hk).mono ?_
  rintro e w1 ⟨rfl, rfl⟩
  go_wp2_with fail
  refine (u64Add_m ⟨s, 1, none⟩ m _ c1 f1).mono ?_
  rintro e w1 ⟨rfl, rfl⟩
  go_wp2_with fail
  go_ret
  exact ⟨rfl, (HS.out.count _).put k v, ((Touch.refl _ _).setCell (p := ⟨s, 1, none⟩) (fun _ => .inl rfl) _).setCell (p := ⟨g, k, none⟩) (fun _ => .inr rfl) _⟩

end Go.Proofs.Ytgfpcamgebnfmaa.Pk
