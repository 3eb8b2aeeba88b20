/-
  A sheet that was just made, asked for its numbers once: sync.Once and an atomic counter, one goroutine.
-/
import Derived.Test.YtknfhkfbbnekjaaPlanNums
import Derived.Test.YtknfhkfbbnekjaaTouch
import Derived.Defers
import Derived.Laws.Pointers
import Derived.Laws.LoneSync
import Derived.RegionTactic
import Derived.RegionCalls
import Derived.ChangeAlike
import Derived.Deep.RegionHeld3
namespace Go.Proofs.Ytknfhkfbbnekjaa.Pk
open Go.RowKit
set_option linter.unusedVariables false
set_option linter.unusedSimpArgs false

theorem disable (w : World) : (callFunc 38 #[]).run Try.prog w = .ok (.value (.tuple #[])) w := run_call_mark0 Try.func38 (by kernel_rfl) (by kernel_rfl) (by kernel_rfl) .disable (by kernel_rfl) w
theorem enable (w : World) : (callFunc 40 #[]).run Try.prog w = .ok (.value (.tuple #[])) w := run_call_mark0 Try.func40 (by kernel_rfl) (by kernel_rfl) (by kernel_rfl) .enable (by kernel_rfl) w
theorem acquire (a : Addr) (w : World) : (callFunc 41 #[.pointer (some a)]).run Try.prog w = .ok (.value (.tuple #[])) w := run_call_marked Try.func41 (by kernel_rfl) (by kernel_rfl) (by kernel_rfl) .acquire (by kernel_rfl) a w
theorem releaseMerge (a : Addr) (w : World) : (callFunc 43 #[.pointer (some a)]).run Try.prog w = .ok (.value (.tuple #[])) w := run_call_marked Try.func43 (by kernel_rfl) (by kernel_rfl) (by kernel_rfl) .releaseMerge (by kernel_rfl) a w

theorem boolStore_deferred (a : Addr) (x : Value) (u : FrameMode) (w : World) (hc : w.cell? a = some x) (hz : w.frozen? a = false) :
    CallsD Try.prog 33 #[.pointer (some a), .bool true] u w fun e u' w' => u' = u ∧ (e = .returned (.tuple #[]) ∧ w' = w.drew.setCell a (.int .u32 1)) := by
  have hc' : w.drew.cell? a = some x := by go_simp
  have hz' : w.drew.frozen? a = false := by go_simp
  have hst := run_call_store (P := Try.prog) Try.func36 (by kernel_rfl) (by kernel_rfl) (by kernel_rfl) (by kernel_rfl) (k := .u32) (y := 1) hc' hz'
  go_enter_d Try.func33, Try.ntmps33
  go_wp2
  go_region_calls
  all_goals (go_end0; exact ⟨rfl, rfl⟩)

theorem muUnlock_deferred (a : Addr) (u : FrameMode) (w : World) (hc : w.cell? a = some (.int .i32 1)) (hz : w.frozen? a = false) :
    CallsD Try.prog 32 #[.pointer (some a)] u w fun e u' w' => u' = u ∧ (e = .returned (.tuple #[]) ∧ w' = w.setCell a (.int .i32 0)) := by
  have hd := disable
  have he := enable
  have hr := releaseMerge
  have hadd := run_call_add (P := Try.prog) Try.func44 (by kernel_rfl) (by kernel_rfl) (by kernel_rfl) .i32 (by kernel_rfl) (y := -1) (s := 0) hc hz (by simp [go_sem]; rfl)
  have hcv := run_convert_to_unsafe (P := Try.prog) (src := 76) (dst := 80) Try.underlying76 Try.underlying80 (by kernel_rfl) hc
  go_enter_d Try.func32, Try.ntmps32
  go_wp2
  go_end0
  go_wp2
  go_end0
  exact ⟨rfl, rfl⟩

theorem muLock_free (a : Addr) (w : World) (hc : w.cell? a = some (.int .i32 0)) (hz : w.frozen? a = false) :
    Calls Try.prog 31 #[.pointer (some a)] w fun e w' => e = .returned (.tuple #[]) ∧ w' = w.setCell a (.int .i32 1) := by
  have hd := disable
  have he := enable
  have ha := acquire
  have hcas := run_call_cas_hit (P := Try.prog) Try.func39 (by kernel_rfl) (by kernel_rfl) (by kernel_rfl) .i32 (by kernel_rfl) (y := 1) hc hz
  have hc' : (w.setCell a (.int .i32 1)).cell? a = some (.int .i32 1) := World.cell?_setCell_same w a _ hc
  have hcv := run_convert_to_unsafe (P := Try.prog) (src := 76) (dst := 80) Try.underlying76 Try.underlying80 (by kernel_rfl) hc'
  go_enter Try.func31, Try.ntmps31
  go_wp2
  first | go_end0 | (simp only [Exit.inBlock, Exit.then]; refine bodyPost_ret (results_none rfl _ _ _) rfl ?_) | refine bodyPost_ret (results_none rfl _ _ _) rfl ?_
  go_wp2
  go_end0
  exact ⟨rfl, rfl⟩

theorem i64Add_any (a : Addr) (x : Int) (w : World) (hc : w.cell? a = some (.int .i64 0)) (hz : w.frozen? a = false) :
    Calls Try.prog 24 #[.pointer (some a), .int .i64 1] w fun e w' => e = .returned (.int .i64 1) ∧ w' = w.setCell a (.int .i64 1) := by
  have hadd := run_call_add (P := Try.prog) Try.func27 (by kernel_rfl) (by kernel_rfl) (by kernel_rfl) .i64 (by kernel_rfl) (y := 1) (s := 1) hc hz (by simp [go_sem]; rfl)
  go_enter Try.func24, Try.ntmps24
  go_wp2
  go_ret
  exact ⟨rfl, rfl⟩

theorem below_undrew {w w1 : World} (h : Below w.drew.heap.size w.drew w1) : Below w.heap.size w w1 := ⟨h.os, h.tape, h.output, h.size, h.block⟩
/-- The sheet's cells: the configuration, the Once (done, its lock's state and semaphore), the numbers, the error, how often it was asked. -/
def sheetC (N W R K done st : Int) (v0 v1 v2 v3 v4 v5 v6 v7 err asked : Int) : Array Value :=
  #[.int .i64 N, .int .i64 W, .int .i64 R, .int .i64 K, .int .u32 done, .int .i32 st, .int .u32 0, .int .i64 v0, .int .i64 v1, .int .i64 v2, .int .i64 v3, .int .i64 v4, .int .i64 v5, .int .i64 v6, .int .i64 v7, .int .i64 err, .int .i64 asked]
def sheetN (N W R K done st asked : Int) : Array Value := sheetC N W R K done st (wordsI N W R) (W - 8) (W - 7) (fieldsI W) (epochI N W) (drainI N W) (lagI N W K) (settleI N W K) 0 asked
/-- The sheet holds its numbers; nothing else has changed. -/
def Filled (s : Nat) (N W R K done st : Int) (w : World) (e : Ending) (w' : World) : Prop := e = .returned (.tuple #[]) ∧ Blk w' s (sheetN N W R K done st 1) 62 ∧ Touch (· = s) w w'
theorem filled_end {s : Nat} {N W R K done st : Int} {w w1 : World} (hB : Blk w1 s (sheetC N W R K done st 0 0 0 0 0 0 0 0 0 1) 62) (hT : Touch (· = s) w w1) :
    Filled s N W R K done st w (.returned (.tuple #[])) (((((((((w1.setCell ⟨s, 7, none⟩ (.int .i64 (wordsI N W R))).setCell ⟨s, 8, none⟩ (.int .i64 (W - 8))).setCell ⟨s, 9, none⟩ (.int .i64 (W - 7))).setCell ⟨s, 10, none⟩ (.int .i64 (fieldsI W))).setCell
      ⟨s, 11, none⟩ (.int .i64 (epochI N W))).setCell ⟨s, 12, none⟩ (.int .i64 (drainI N W))).setCell ⟨s, 13, none⟩ (.int .i64 (lagI N W K))).setCell ⟨s, 14, none⟩ (.int .i64 (settleI N W K))).setCell ⟨s, 15, none⟩ (.int .i64 0)) := by
  have b0 := hB.put 7 (.int .i64 (wordsI N W R)) (cs' := sheetC N W R K done st (wordsI N W R) 0 0 0 0 0 0 0 0 1) (by simp [sheetC, sheetN])
  have b1 := b0.put 8 (.int .i64 (W - 8)) (cs' := sheetC N W R K done st (wordsI N W R) (W - 8) 0 0 0 0 0 0 0 1) (by simp [sheetC, sheetN])
  have b2 := b1.put 9 (.int .i64 (W - 7)) (cs' := sheetC N W R K done st (wordsI N W R) (W - 8) (W - 7) 0 0 0 0 0 0 1) (by simp [sheetC, sheetN])
  have b3 := b2.put 10 (.int .i64 (fieldsI W)) (cs' := sheetC N W R K done st (wordsI N W R) (W - 8) (W - 7) (fieldsI W) 0 0 0 0 0 1) (by simp [sheetC, sheetN])
  have b4 := b3.put 11 (.int .i64 (epochI N W)) (cs' := sheetC N W R K done st (wordsI N W R) (W - 8) (W - 7) (fieldsI W) (epochI N W) 0 0 0 0 1) (by simp [sheetC, sheetN])
  have b5 := b4.put 12 (.int .i64 (drainI N W)) (cs' := sheetC N W R K done st (wordsI N W R) (W - 8) (W - 7) (fieldsI W) (epochI N W) (drainI N W) 0 0 0 1) (by simp [sheetC, sheetN])
  have b6 := b5.put 13 (.int .i64 (lagI N W K)) (cs' := sheetC N W R K done st (wordsI N W R) (W - 8) (W - 7) (fieldsI W) (epochI N W) (drainI N W) (lagI N W K) 0 0 1) (by simp [sheetC, sheetN])
  have b7 := b6.put 14 (.int .i64 (settleI N W K)) (cs' := sheetC N W R K done st (wordsI N W R) (W - 8) (W - 7) (fieldsI W) (epochI N W) (drainI N W) (lagI N W K) (settleI N W K) 0 1) (by simp [sheetC, sheetN])
  have b8 := b7.put 15 (.int .i64 0) (cs' := sheetN N W R K done st 1) (by simp [sheetC, sheetN])
  refine ⟨rfl, b8, ?_⟩
  exact ((((((((hT.setCell (p := ⟨s, 7, none⟩) (fun _ => rfl) _).setCell (p := ⟨s, 8, none⟩) (fun _ => rfl) _).setCell (p := ⟨s, 9, none⟩) (fun _ => rfl) _).setCell (p := ⟨s, 10, none⟩) (fun _ => rfl) _).setCell (p := ⟨s, 11, none⟩) (fun _ => rfl) _).setCell (p := ⟨s, 12, none⟩) (fun _ => rfl) _).setCell (p := ⟨s, 13, none⟩) (fun _ => rfl) _).setCell (p := ⟨s, 14, none⟩) (fun _ => rfl) _).setCell (p := ⟨s, 15, none⟩) (fun _ => rfl) _

set_option maxRecDepth 100000 in
set_option maxHeartbeats 1000000 in
theorem fill_any (s p : Nat) (N W R K : Int) (w : World) (h : May N W R K) (hsp : s ≠ p) (hB : Blk w s (sheetC N W R K 0 1 0 0 0 0 0 0 0 0 0 1) 62) (hp : w.cell? ⟨p, 0, none⟩ = some (.pointer (some ⟨s, 0, none⟩))) :
    Calls Try.prog 26 #[.pointer (some ⟨p, 0, none⟩)] w (Filled s N W R K 0 1 w) := by
  have HX := Lib.hid h
  have hpl : p < w.heap.size := cell_block hp
  have hsl : s < w.heap.size := hB.lt
  have c0 : w.cell? ⟨s, 0, none⟩ = some (.int .i64 N) := hB.cell 0 rfl
  have c1 : w.cell? ⟨s, 1, none⟩ = some (.int .i64 W) := hB.cell 1 rfl
  have c2 : w.cell? ⟨s, 2, none⟩ = some (.int .i64 R) := hB.cell 2 rfl
  have c3 : w.cell? ⟨s, 3, none⟩ = some (.int .i64 K) := hB.cell 3 rfl
  have HBk := Lib.hid hB
  clear h hB
  go_enter Try.func26, Try.ntmps26
  go_wp2_with fail
  go_region_held3 (fun w' => w'.cell? ⟨p, 0, none⟩ = some (.pointer (some ⟨s, 0, none⟩)) ∧ w'.cell? ⟨s, 0, none⟩ = some (.int .i64 N) ∧ w'.cell? ⟨s, 1, none⟩ = some (.int .i64 W) ∧ w'.cell? ⟨s, 2, none⟩ = some (.int .i64 R) ∧ w'.cell? ⟨s, 3, none⟩ = some (.int .i64 K)) ((first | (go_keep; done) | (go_split_ands; refine ⟨?_, ?_, ?_, ?_, ?_⟩ <;> first | (go_keep; done) | (go_simp; done))))
    ((go_at_call 11; refine (of_yes _ _ _ _ _ HX.out).mono ?_; rintro e w1 ⟨rfl, hb0⟩; have hb := below_undrew hb0; clear hb0; have HB1 := Lib.hid (HBk.out.later hb); have ep : w1.cell? ⟨p, 0, none⟩ = some (.pointer (some ⟨s, 0, none⟩)) := (hb.cell (p := ⟨p, 0, none⟩) hpl).trans hp; have e0 : w1.cell? ⟨s, 0, none⟩ = some (.int .i64 N) := HB1.out.cell 0 rfl; have e1 : w1.cell? ⟨s, 1, none⟩ = some (.int .i64 W) := HB1.out.cell 1 rfl; have e2 : w1.cell? ⟨s, 2, none⟩ = some (.int .i64 R) := HB1.out.cell 2 rfl; have e3 : w1.cell? ⟨s, 3, none⟩ = some (.int .i64 K) := HB1.out.cell 3 rfl; have e7 : w1.cell? ⟨s, 7, none⟩ = some (.int .i64 0) := HB1.out.cell 7 rfl; have e8 : w1.cell? ⟨s, 8, none⟩ = some (.int .i64 0) := HB1.out.cell 8 rfl; have e9 : w1.cell? ⟨s, 9, none⟩ = some (.int .i64 0) := HB1.out.cell 9 rfl; have e10 : w1.cell? ⟨s, 10, none⟩ = some (.int .i64 0) := HB1.out.cell 10 rfl; have e11 : w1.cell? ⟨s, 11, none⟩ = some (.int .i64 0) := HB1.out.cell 11 rfl; have e12 : w1.cell? ⟨s, 12, none⟩ = some (.int .i64 0) := HB1.out.cell 12 rfl; have e13 : w1.cell? ⟨s, 13, none⟩ = some (.int .i64 0) := HB1.out.cell 13 rfl; have e14 : w1.cell? ⟨s, 14, none⟩ = some (.int .i64 0) := HB1.out.cell 14 rfl; have e15 : w1.cell? ⟨s, 15, none⟩ = some (.int .i64 0) := HB1.out.cell 15 rfl; have ef : ∀ i, w1.frozen? ⟨s, i, none⟩ = false := fun i => HB1.out.free i; have HT := Lib.hid (Touch.of_below (X := (· = s)) hb); clear hb; unfold numsV))
  go_end0
  exact filled_end HB1.out HT.out

set_option maxRecDepth 100000 in
set_option maxHeartbeats 1600000 in
theorem slow_any (s p : Nat) (N W R K : Int) (w : World) (h : May N W R K) (hsp : s ≠ p) (hB : Blk w s (sheetC N W R K 0 0 0 0 0 0 0 0 0 0 0 1) 62) (hp : w.cell? ⟨p, 0, none⟩ = some (.pointer (some ⟨s, 0, none⟩))) :
    Calls Try.prog 29 #[.pointer (some ⟨s, 4, none⟩), .func (.func 26) #[] #[.pointer (some ⟨p, 0, none⟩)]] w (Filled s N W R K 1 0 w) := by
  have HX := Lib.hid h
  have h5 : w.cell? ⟨s, 5, none⟩ = some (.int .i32 0) := hB.cell 5 rfl
  have f5 : w.frozen? ⟨s, 5, none⟩ = false := hB.free 5
  have hB1 : Blk (w.setCell ⟨s, 5, none⟩ (.int .i32 1)) s (sheetC N W R K 0 1 0 0 0 0 0 0 0 0 0 1) 62 := hB.set 5 _
  have hl := run_call_load (P := Try.prog) Try.func30 (by kernel_rfl) (by kernel_rfl) (by kernel_rfl) .u32 (by kernel_rfl) (w := w.setCell ⟨s, 5, none⟩ (.int .i32 1)) (a := ⟨s, 4, none⟩) (x := 0) (hB1.cell 4 rfl)
  have hp1 : (w.setCell ⟨s, 5, none⟩ (.int .i32 1)).cell? ⟨p, 0, none⟩ = some (.pointer (some ⟨s, 0, none⟩)) := (World.cell?_setCell_other _ ⟨s, 5, none⟩ ⟨p, 0, none⟩ _ (fun e => hsp (congrArg Addr.block e))).trans hp
  have hnot : ∀ (x : Bool) (w : World), (Op.unary .not (.bool x)).run Try.prog w = .ok (.bool (!x)) w := fun _ _ => rfl
  have HB1 := Lib.hid hB1
  have HP1 := Lib.hid hp1
  have HT1 := Lib.hid (Touch.setCell (Touch.refl (· = s) w) (p := ⟨s, 5, none⟩) (fun _ => rfl) (.int .i32 1))
  clear h hB hB1 hp hp1
  go_enter_defers Try.func29, Try.ntmps29
  go_wp2_with (go_at_call 31; refine (muLock_free ⟨s, 5, none⟩ _ h5 f5).mono ?_; rintro e w' ⟨rfl, rfl⟩)
  go_wp2_with (first | (go_at_call 26; refine (fill_any s p N W R K _ HX.out hsp HB1.out HP1.out).mono ?_; rintro e w2 ⟨rfl, hB2, hT2⟩) | (go_at_call 28; go_in))
  -- the two deferred calls, the last laid first
  have hb3 : Blk w2.drew s (sheetN N W R K 0 1 1) 62 := hB2.drew
  have hb4 := hb3.put 4 (.int .u32 1) (cs' := sheetN N W R K 1 1 1) rfl
  have hb5 := hb4.put 5 (.int .i32 0) (cs' := sheetN N W R K 1 0 1) rfl
  refine leaves_cons (f := 33) (args := #[.pointer (some ⟨s, 4, none⟩), .bool true]) (by simp) (by simp [go_sem]) ?_
  refine (boolStore_deferred ⟨s, 4, none⟩ (.int .u32 0) .returning _ (hB2.cell 4 rfl) (hB2.free 4)).mono ?_
  rintro e u' w'' ⟨rfl, rfl, rfl⟩
  refine leaves_cons (f := 32) (args := #[.pointer (some ⟨s, 5, none⟩)]) (by simp [settle]) (by simp [go_sem]) ?_
  refine (muUnlock_deferred ⟨s, 5, none⟩ _ _ (hb4.cell 5 rfl) (hb4.free 5)).mono ?_
  rintro e u' w'' ⟨rfl, rfl, rfl⟩
  simp only [Leaves, settle]
  refine ⟨.tuple #[], by simp [results, Try.results29, go_sem], rfl, hb5, ?_⟩
  exact (((HT1.out.trans hT2).drew.setCell (p := ⟨s, 4, none⟩) (fun _ => rfl) _).setCell (p := ⟨s, 5, none⟩) (fun _ => rfl) _)

set_option maxRecDepth 100000 in
set_option maxHeartbeats 1600000 in
theorem do_first (s p : Nat) (N W R K : Int) (w : World) (h : May N W R K) (hsp : s ≠ p) (hB : Blk w s (sheetC N W R K 0 0 0 0 0 0 0 0 0 0 0 1) 62) (hp : w.cell? ⟨p, 0, none⟩ = some (.pointer (some ⟨s, 0, none⟩))) :
    Calls Try.prog 25 #[.pointer (some ⟨s, 4, none⟩), .func (.func 26) #[] #[.pointer (some ⟨p, 0, none⟩)]] w (Filled s N W R K 1 0 w) := by
  have hl := run_call_load (P := Try.prog) Try.func30 (by kernel_rfl) (by kernel_rfl) (by kernel_rfl) .u32 (by kernel_rfl) (w := w) (a := ⟨s, 4, none⟩) (x := 0) (hB.cell 4 rfl)
  have hnot : ∀ (x : Bool) (w : World), (Op.unary .not (.bool x)).run Try.prog w = .ok (.bool (!x)) w := fun _ _ => rfl
  have HX := Lib.hid h
  have HB := Lib.hid hB
  have HP := Lib.hid hp
  clear h hB hp
  go_enter Try.func25, Try.ntmps25
  go_wp2_with (first | (go_at_call 29; refine (slow_any s p N W R K _ HX.out hsp HB.out HP.out).mono ?_; rintro e w' ⟨rfl, hB', hT'⟩) | (go_at_call 28; go_in))
  go_end0
  exact ⟨rfl, hB', hT'⟩

end Go.Proofs.Ytknfhkfbbnekjaa.Pk
