/-
  The law's act on a chain, whatever it is.
-/
import Derived.Test.YticlidpdmonijaaChainDoP0
import Derived.Test.YticlidpdmonijaaChainDoP1
import Derived.Test.YticlidpdmonijaaChainDoS
import Derived.Test.YticlidpdmonijaaChainDoT
import Derived.Test.YticlidpdmonijaaChainDoL
import Derived.Test.YticlidpdmonijaaChainDoM
import Derived.Test.YticlidpdmonijaaChainDoN
import Derived.Test.YticlidpdmonijaaChainDoB
import Derived.Test.YticlidpdmonijaaChainDoE
namespace Go.Proofs.Yticlidpdmonijaa.Pk
open Go.RowKit
set_option linter.unusedVariables false
set_option linter.unusedSimpArgs false

theorem do_put (F : ChainFns) (p : Pl) (c : Cf) (s : St) (q : Nat) (la lb : List Nat) (w : World) (hT : Two w p c s q la lb) (hl : la.length + lb.length ≤ 9000) (kind k : Nat) (b : Int) (hk : kind = 0 ∨ kind = 1) (hj : k = 0 ∨ k = 1) :
    Calls Try.prog 10 #[.pointer (some ⟨p.a, 0, none⟩), .pointer (some ⟨q, 0, none⟩), .agg #[.int .u8 (kind : Int), .int .i64 (k : Int), .int .i64 b]] w (DoPost w p c q la lb) := by
  by_cases h0 : b < 0
  · rcases hk with rfl | rfl <;> rcases hj with rfl | rfl
    · exact do_b00neg F p c s q b la lb w hT hl h0
    · exact do_b01neg F p c s q b la lb w hT hl h0
    · exact do_b10neg F p c s q b la lb w hT hl h0
    · exact do_b11neg F p c s q b la lb w hT hl h0
  · by_cases h1 : (c.N : Int) ≤ b
    · rcases hk with rfl | rfl <;> rcases hj with rfl | rfl
      · exact do_b00big F p c s q b la lb w hT hl h1
      · exact do_b01big F p c s q b la lb w hT hl h1
      · exact do_b10big F p c s q b la lb w hT hl h1
      · exact do_b11big F p c s q b la lb w hT hl h1
    · obtain ⟨n, rfl⟩ := Int.eq_ofNat_of_zero_le (show 0 ≤ b by omega)
      have hn : n < c.N := by omega
      by_cases hs : n ∈ la ∨ n ∈ lb
      · rcases hk with rfl | rfl <;> rcases hj with rfl | rfl
        · exact do_s00 F p c s q n la lb w hT hl hn hs
        · exact do_s01 F p c s q n la lb w hT hl hn hs
        · exact do_s10 F p c s q n la lb w hT hl hn hs
        · exact do_s11 F p c s q n la lb w hT hl hn hs
      · have h2 : n ∉ la := fun h => hs (Or.inl h)
        have h3 : n ∉ lb := fun h => hs (Or.inr h)
        rcases hk with rfl | rfl <;> rcases hj with rfl | rfl
        · exact do_p00 F p c s q n la lb w hT hl hn h2 h3
        · exact do_p01 F p c s q n la lb w hT hl hn h2 h3
        · exact do_p10 F p c s q n la lb w hT hl hn h2 h3
        · exact do_p11 F p c s q n la lb w hT hl hn h2 h3

theorem do_any (F : ChainFns) (p : Pl) (c : Cf) (s : St) (q : Nat) (la lb : List Nat) (w : World) (hT : Two w p c s q la lb) (hl : la.length + lb.length ≤ 9000) (kind k b : Int) :
    Calls Try.prog 10 #[.pointer (some ⟨p.a, 0, none⟩), .pointer (some ⟨q, 0, none⟩), .agg #[.int .u8 kind, .int .i64 k, .int .i64 b]] w (DoPost w p c q la lb) := by
  by_cases hk : k = 0 ∨ k = 1
  · have hb : b < 0 ∨ 0 ≤ b := by omega
    by_cases k0 : kind = 0
    · subst k0
      rcases hk with rfl | rfl
      · exact do_put F p c s q la lb w hT hl 0 0 b (Or.inl rfl) (Or.inl rfl)
      · exact do_put F p c s q la lb w hT hl 0 1 b (Or.inl rfl) (Or.inr rfl)
    · by_cases k1 : kind = 1
      · subst k1
        rcases hk with rfl | rfl
        · exact do_put F p c s q la lb w hT hl 1 0 b (Or.inr rfl) (Or.inl rfl)
        · exact do_put F p c s q la lb w hT hl 1 1 b (Or.inr rfl) (Or.inr rfl)
      · by_cases k2 : kind = 2
        · subst k2
          rcases hk with rfl | rfl
          · cases la with
            | nil => rcases hb with hb | hb
                     · exact do_te0neg F p c s q b lb w hT hl hb
                     · exact do_te0any F p c s q b lb w hT hl hb
            | cons x t => rcases hb with hb | hb
                          · exact do_t0neg F p c s q b x t lb w hT hl hb
                          · exact do_t0any F p c s q b x t lb w hT hl hb
          · cases lb with
            | nil => rcases hb with hb | hb
                     · exact do_te1neg F p c s q b la w hT hl hb
                     · exact do_te1any F p c s q b la w hT hl hb
            | cons x t => rcases hb with hb | hb
                          · exact do_t1neg F p c s q b x t la w hT hl hb
                          · exact do_t1any F p c s q b x t la w hT hl hb
        · have g0 := neq_b k0
          have g1 := neq_b k1
          have g2 := neq_b k2
          rcases hk with rfl | rfl
          · cases la with
            | nil => rcases hb with hb | hb
                     · exact do_le0neg F p c s q kind b lb w hT hl g0 g1 g2 hb
                     · exact do_le0any F p c s q kind b lb w hT hl g0 g1 g2 hb
            | cons x t => rcases hb with hb | hb
                          · exact do_lx0neg F p c s q kind b x t lb w hT hl g0 g1 g2 hb
                          · exact do_lx0any F p c s q kind b x t lb w hT hl g0 g1 g2 hb
          · cases lb with
            | nil => rcases hb with hb | hb
                     · exact do_le1neg F p c s q kind b la w hT hl g0 g1 g2 hb
                     · exact do_le1any F p c s q kind b la w hT hl g0 g1 g2 hb
            | cons x t => rcases hb with hb | hb
                          · exact do_lx1neg F p c s q kind b x t la w hT hl g0 g1 g2 hb
                          · exact do_lx1any F p c s q kind b x t la w hT hl g0 g1 g2 hb
  · have j0 : (k == 0) = false := neq_b (fun h => hk (Or.inl h))
    have j1 : (k == 1) = false := neq_b (fun h => hk (Or.inr h))
    by_cases k0 : kind = 0
    · subst k0; exact do_k0 F p c s q k b la lb w hT hl j0 j1
    · by_cases k1 : kind = 1
      · subst k1; exact do_k1 F p c s q k b la lb w hT hl j0 j1
      · by_cases k2 : kind = 2
        · subst k2; exact do_k2 F p c s q k b la lb w hT hl j0 j1
        · exact do_lk F p c s q kind k b la lb w hT hl (neq_b k0) (neq_b k1) (neq_b k2) j0 j1

end Go.Proofs.Yticlidpdmonijaa.Pk
