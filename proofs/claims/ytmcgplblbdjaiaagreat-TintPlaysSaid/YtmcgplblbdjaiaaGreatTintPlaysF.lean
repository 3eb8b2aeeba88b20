/-
  TintPlays, the main case (over the bundles).
-/
import Derived.Test.YtmcgplblbdjaiaaGreatTintActFEtc
import Derived.Test.YtmcgplblbdjaiaaGreatRefMkEtc
import Derived.Test.YtmcgplblbdjaiaaGreatRecsEtc
namespace Go.Proofs.YtmcgplblbdjaiaaGreat.Pk
open Go.RowKit
set_option linter.unusedVariables false
set_option linter.unusedSimpArgs false
set_option maxRecDepth 100000

theorem tact_of {w : World} {a : Option Addr} {rs : List (List Fld)} (hr : Recs w a [.int .u8, .int .i64, .int .i64, .int .i64, .int .i64] rs) {k : Nat} (hk : k < rs.length) :
    ∃ (b off : Nat) (kd r i x y : Int), a = some ⟨b, off, none⟩ ∧ b < w.heap.size ∧ w.cell? ⟨b, off + k * 5, none⟩ = some (.int .u8 kd) ∧ w.cell? ⟨b, off + k * 5 + 1, none⟩ = some (.int .i64 r) ∧ w.cell? ⟨b, off + k * 5 + 2, none⟩ = some (.int .i64 i) ∧ w.cell? ⟨b, off + k * 5 + 3, none⟩ = some (.int .i64 x) ∧ w.cell? ⟨b, off + k * 5 + 4, none⟩ = some (.int .i64 y) ∧ 0 ≤ kd ∧ In64 r := by
  obtain ⟨h1, b, off, ha, hb, hc⟩ := hr k rs[k] (by simp [hk])
  generalize rs[k] = r at h1 hc
  have hl : r.length = 5 := by have := congrArg List.length h1; simpa using this
  match r, hl with
  | [f0, f1, f2, f3, f4], _ =>
    simp at h1
    obtain ⟨k0, k1, k2, k3, k4⟩ := h1
    have c0 := hc 0 f0 rfl
    have c1 := hc 1 f1 rfl
    have c2 := hc 2 f2 rfl
    have c3 := hc 3 f3 rfl
    have c4 := hc 4 f4 rfl
    cases f0 <;> simp [Fld.kd] at k0
    cases f1 <;> simp [Fld.kd] at k1
    cases f2 <;> simp [Fld.kd] at k2
    cases f3 <;> simp [Fld.kd] at k3
    cases f4 <;> simp [Fld.kd] at k4
    subst k0 k1 k2 k3 k4
    refine ⟨b, off, _, _, _, _, _, ha, hb, by simpa [Fld.val] using c0.1, by simpa [Fld.val] using c1.1, by simpa [Fld.val] using c2.1, by simpa [Fld.val] using c3.1, by simpa [Fld.val] using c4.1, ?_, ?_⟩
    · have := c0.2
      simp [Fld.ok, Lit.wf, IntKind.min, IntKind.max, IntKind.bits, IntKind.signed] at this
      omega
    · have := c1.2
      simp [Fld.ok, Lit.wf, IntKind.min, IntKind.max, IntKind.bits, IntKind.signed] at this
      unfold In64
      omega
set_option maxHeartbeats 4000000 in
theorem tintPlays_few (F : PoolFns) (O : ObjFns) (R : RingFns) (T : TintFns) (n v : Nat) (cr ck : Int) (a : Option Addr) (cap : Nat) (rs : List (List Fld)) (w : World) (h0 : 1 ≤ n) (h1 : n ≤ 40) (h2 : 16 ≤ v) (h3 : v ≤ 20) (h4 : rs.length ≤ 100) (hrs : Recs w a [.int .u8, .int .i64, .int .i64, .int .i64, .int .i64] rs) :
    Calls Tryz.prog 3 #[.agg #[.int .i64 (n : Int), .int .i64 (v : Int), .int .i64 cr, .int .i64 ck], .slice a rs.length cap] w fun e w' => e = .returned (.bool true) ∧ Below w.heap.size w w' := by
  have hm : (Cf.mk n v 1 1).May := by
    have e1 : (n : Int) * (v : Int) ≤ 40 * 20 := Int.mul_le_mul (by omega) (by omega) (by omega) (by omega)
    constructor <;> simp <;> omega
  have HO := Lib.hid (fun wz => openedRW_any F ⟨n, v, 1, 1⟩ wz hm (by show n ≤ 10000; omega))
  have HRs := Lib.hid hrs
  have g0 : ¬ (n : Int) < 1 := by omega
  have g1 : ¬ 40 < (n : Int) := by omega
  have g2 : ¬ (v : Int) < 16 := by omega
  have g3 : ¬ 20 < (v : Int) := by omega
  have g4 : ¬ 100 < (rs.length : Int) := by omega
  have HN : Hid (0 < n ∧ n ≤ 40 ∧ rs.length ≤ 100) := Lib.hid ⟨h0, h1, h4⟩
  clear hrs hm h0 h1 h2 h3 h4
  go_enter Tryz.func3, Tryz.ntmps3
  go_wp2_with fail
  have HB0 := Lib.hid (below_new w (.cells #[.int .i64 (n : Int), .int .i64 (v : Int), .int .i64 1, .int .i64 1] 23))
  generalize hw0 : w.alloc (.cells #[.int .i64 (n : Int), .int .i64 (v : Int), .int .i64 1, .int .i64 1] 23) = w0 at *
  refine (HO.out w0).mono ?_
  rintro e w1 ⟨p, q, lo, rfl, hS, hW, hlo, hs1, hs2⟩
  have HS0 : Hid (TSt w0 p q lo ⟨n, v, 1, 1⟩ (Wd.new n v) (Wd.new n v) w1) := Lib.hid ⟨hS, hW, hlo, hs1⟩
  have HI0 := Lib.hid (WIn.new n v HN.out.1)
  clear hS hW hlo hs1 hs2
  go_wp2_with fail
  go_loopw [47] (fun i wr => ∃ k : Nat, k ≤ rs.length ∧ i = .int .i64 (k : Int) ∧ ∃ D, TSt w0 p q lo ⟨n, v, 1, 1⟩ D D wr ∧ WIn D n k) (fun i _ => rs.length - (intOf i).toNat)
  case atStart => exact ⟨0, Nat.zero_le _, rfl, _, HS0.out, HI0.out⟩
  case round =>
    obtain ⟨k, hk, rfl, D, hS, hI⟩ := hrel
    have HI := Lib.hid hI
    have HBe : Hid (Below w.heap.size w wr) := Lib.hid (below_step HB0.out hS.1.below)
    by_cases hlt : k < rs.length
    · obtain ⟨b, off, kd, r, i, x, y, rfl, hb0, x0, x1, x2, x3, x4, hkd, hr⟩ := tact_of HRs.out hlt
      have y0 := (HBe.out.cell (p := ⟨b, off + k * 5, none⟩) hb0).trans x0
      have y1 := (HBe.out.cell (p := ⟨b, off + k * 5 + 1, none⟩) hb0).trans x1
      have y2 := (HBe.out.cell (p := ⟨b, off + k * 5 + 2, none⟩) hb0).trans x2
      have y3 := (HBe.out.cell (p := ⟨b, off + k * 5 + 3, none⟩) hb0).trans x3
      have y4 := (HBe.out.cell (p := ⟨b, off + k * 5 + 4, none⟩) hb0).trans x4
      obtain ⟨m, hM⟩ := hS.sm
      have HM := Lib.hid (hM.later (below_new wr (.cells #[.int .u8 kd, .int .i64 r, .int .i64 i, .int .i64 x, .int .i64 y] 33)))
      have HR := Lib.hid hr
      have HKd := Lib.hid hkd
      clear hS hI hM hr hkd x0 x1 x2 x3 x4 hb0
      go_wp2_with fail
      refine (HM.out.meter).mono ?_
      rintro e w2 ⟨rfl, rfl⟩
      by_cases hk4 : kd < 4
      · have HK4 := Lib.hid hk4
        go_wp2_with fail
        refine (all_any O T HM.out.st HI.out HN.out.2.1 (by have := HN.out.2.2; omega) kd r i x y ⟨HKd.out, HK4.out⟩).mono ?_
        rintro e w3 ⟨rfl, D', hI', hS'⟩
        have HI2 := Lib.hid hI'
        have HS2 := Lib.hid hS'
        clear hI' hS'
        go_wp2_with fail
        refine (tintLike_any R T HS2.out (HI2.out.lq HN.out.2.1 (by have := HN.out.2.2; omega))).mono ?_
        rintro e w4 ⟨rfl, hS', hT⟩
        have HS3 := Lib.hid hS'
        clear hS' hT
        go_wp2_with fail
        go_roundw
        case rel => exact ⟨k + 1, by omega, by go_num, D', HS3.out, HI2.out⟩
        case measure => first | (simp [intOf]; done) | (simp [intOf]; omega)
      · have HK4 : Hid (4 ≤ kd) := Lib.hid (by omega)
        go_wp2_with fail
        refine (one_any T HM.out HI.out HN.out.2.1 (by have := HN.out.2.2; omega) kd r i x y HR.out HK4.out).mono ?_
        rintro e w3 ⟨rfl, D', d, hI', hd, hS'⟩
        have HI2 := Lib.hid hI'
        have HS2 := Lib.hid hS'
        have hmt := u64m_add m d (by omega)
        have hd32 : (d : Int) ≤ 32 := by omega
        clear hI' hS' hd
        go_wp2_with fail
        refine (HS2.out.meter).mono ?_
        rintro e w5 ⟨rfl, rfl⟩
        go_wp2_with fail
        refine (tintLike_any R T HS2.out.st (HI2.out.lq HN.out.2.1 (by have := HN.out.2.2; omega))).mono ?_
        rintro e w4 ⟨rfl, hS', hT⟩
        have HS3 := Lib.hid hS'
        clear hS' hT
        go_wp2_with fail
        go_roundw
        case rel => exact ⟨k + 1, by omega, by go_num, D', HS3.out, HI2.out⟩
        case measure => first | (simp [intOf]; done) | (simp [intOf]; omega)
    · clear hS hI
      go_wp2_with fail
      refine (begun13_any F O R T _).mono ?_
      rintro e w9 ⟨rfl, hb⟩
      have HB9 := Lib.hid (below_step HBe.out hb)
      clear hb
      go_wp2_with fail
      go_ret
      exact ⟨rfl, HB9.out⟩
set_option maxHeartbeats 2000000 in
theorem tintPlays_out (F : PoolFns) (O : ObjFns) (R : RingFns) (T : TintFns) (N V cr ck : Int) (a : Option Addr) (cap len : Nat) (w : World) (h : N < 1 ∨ 40 < N ∨ V < 16 ∨ 20 < V ∨ 100 < (len : Int)) :
    Calls Tryz.prog 3 #[.agg #[.int .i64 N, .int .i64 V, .int .i64 cr, .int .i64 ck], .slice a len cap] w fun e w' => e = .returned (.bool true) ∧ Below w.heap.size w w' := by
  by_cases g0 : N < 1
  · clear h
    go_enter Tryz.func3, Tryz.ntmps3
    go_wp2_with fail
    refine (begun13_any F O R T _).mono ?_
    rintro e w9 ⟨rfl, hb⟩
    have HB9 := Lib.hid (below_step (below_new w (.cells #[.int .i64 N, .int .i64 V, .int .i64 cr, .int .i64 ck] 23)) hb)
    clear hb
    go_wp2_with fail
    go_ret
    exact ⟨rfl, HB9.out⟩
  · skip
    by_cases g1 : 40 < N
    · clear h
      go_enter Tryz.func3, Tryz.ntmps3
      go_wp2_with fail
      refine (begun13_any F O R T _).mono ?_
      rintro e w9 ⟨rfl, hb⟩
      have HB9 := Lib.hid (below_step (below_new w (.cells #[.int .i64 N, .int .i64 V, .int .i64 cr, .int .i64 ck] 23)) hb)
      clear hb
      go_wp2_with fail
      go_ret
      exact ⟨rfl, HB9.out⟩
    · skip
      by_cases g2 : V < 16
      · clear h
        go_enter Tryz.func3, Tryz.ntmps3
        go_wp2_with fail
        refine (begun13_any F O R T _).mono ?_
        rintro e w9 ⟨rfl, hb⟩
        have HB9 := Lib.hid (below_step (below_new w (.cells #[.int .i64 N, .int .i64 V, .int .i64 cr, .int .i64 ck] 23)) hb)
        clear hb
        go_wp2_with fail
        go_ret
        exact ⟨rfl, HB9.out⟩
      · skip
        by_cases g3 : 20 < V
        · clear h
          go_enter Tryz.func3, Tryz.ntmps3
          go_wp2_with fail
          refine (begun13_any F O R T _).mono ?_
          rintro e w9 ⟨rfl, hb⟩
          have HB9 := Lib.hid (below_step (below_new w (.cells #[.int .i64 N, .int .i64 V, .int .i64 cr, .int .i64 ck] 23)) hb)
          clear hb
          go_wp2_with fail
          go_ret
          exact ⟨rfl, HB9.out⟩
        · skip
          have g4 : 100 < (len : Int) := by omega
          clear h
          go_enter Tryz.func3, Tryz.ntmps3
          go_wp2_with fail
          refine (begun13_any F O R T _).mono ?_
          rintro e w9 ⟨rfl, hb⟩
          have HB9 := Lib.hid (below_step (below_new w (.cells #[.int .i64 N, .int .i64 V, .int .i64 cr, .int .i64 ck] 23)) hb)
          clear hb
          go_wp2_with fail
          go_ret
          exact ⟨rfl, HB9.out⟩
theorem tintPlays_any (F : PoolFns) (O : ObjFns) (R : RingFns) (T : TintFns) (N V cr ck : Int) (a : Option Addr) (cap : Nat) (rs : List (List Fld)) (w : World) (hrs : Recs w a [.int .u8, .int .i64, .int .i64, .int .i64, .int .i64] rs) :
    Calls Tryz.prog 3 #[.agg #[.int .i64 N, .int .i64 V, .int .i64 cr, .int .i64 ck], .slice a rs.length cap] w fun e w' => e = .returned (.bool true) ∧ Below w.heap.size w w' := by
  by_cases h : N < 1 ∨ 40 < N ∨ V < 16 ∨ 20 < V ∨ 100 < (rs.length : Int)
  · exact tintPlays_out F O R T N V cr ck a cap _ w h
  · have := tintPlays_few F O R T N.toNat V.toNat cr ck a cap rs w (by omega) (by omega) (by omega) (by omega) (by omega) hrs
    rw [show (N.toNat : Int) = N by omega, show (V.toNat : Int) = V by omega] at this
    exact this
end Go.Proofs.YtmcgplblbdjaiaaGreat.Pk
