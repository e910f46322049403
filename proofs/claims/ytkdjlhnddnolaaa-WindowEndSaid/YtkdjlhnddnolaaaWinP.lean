/- Windows: the document's Take, all ways, and the calls with numbers written out. -/
import Derived.Test.YtkdjlhnddnolaaaWinR
namespace Go.Proofs.Ytkdjlhnddnolaaa
open Go.RowKit
set_option linter.unusedVariables false
set_option linter.unusedSimpArgs false
set_option maxRecDepth 20000
/-- The document's, all ways. -/
theorem takes_d (N B n : Nat) (hN : N ≤ 18446744073709551615) (hB : B ≤ 18446744073709551615) (hn : n ≤ 18446744073709551615) (hcl : (⟨N, B⟩ : Wn).Clean) (a b e : Nat) (hr : takeW ⟨N, B⟩ n = (⟨a, b⟩, e)) (w : World) :
    Calls Try.prog 10 #[.agg #[.int .u64 (N : Int), .int .u64 (B : Int)], .int .u64 (n : Int)] w fun x w' => x = .returned (.tuple #[.agg #[.int .u64 (a : Int), .int .u64 (b : Int)], .int .i64 (e : Int)]) ∧ Below w.heap.size w w' := by
  unfold takeW at hr
  by_cases ht : n = topN
  · rw [if_pos ht] at hr
    injection hr with h1 h2
    injection h1 with h3 h4
    subst h2 h3 h4
    exact take_top N B n hN hB hn ht w
  · rw [if_neg ht] at hr
    cases hc : canW ⟨N, B⟩ n with
    | false =>
      rw [if_pos hc] at hr
      injection hr with h1 h2
      injection h1 with h3 h4
      subst h2 h3 h4
      exact take_old N B n hN hB hn ht hc w
    | true =>
      rw [if_neg (by rw [hc]; decide)] at hr
      injection hr with h1 h2
      subst h2
      exact take_put N B n hN hB hn ht hc hcl a b (by rw [h1]) (by rw [h1]) w
/-- With numbers written out. -/
theorem take_l (N B n a b e : Nat) (hr : takeW ⟨N, B⟩ n = (⟨a, b⟩, e)) (h : N ≤ 18446744073709551615 ∧ B ≤ 18446744073709551615 ∧ n ≤ 18446744073709551615) (iN iB i ia ib ie : Int) (h1 : (N : Int) = iN) (h2 : (B : Int) = iB) (h3 : (n : Int) = i) (h4 : (a : Int) = ia) (h5 : (b : Int) = ib) (h6 : (e : Int) = ie) (w : World) :
    Calls Try.prog 9 #[.agg #[.int .u64 iN, .int .u64 iB], .int .u64 i] w fun x w' => x = .returned (.tuple #[.agg #[.int .u64 ia, .int .u64 ib], .int .i64 ie]) ∧ Below w.heap.size w w' := by
  subst h1 h2 h3 h4 h5 h6
  exact takes_p N B n h.1 h.2.1 h.2.2 a b e hr w
theorem can_l (N B n : Nat) (b : Bool) (hr : canW ⟨N, B⟩ n = b) (h : N ≤ 18446744073709551615 ∧ B ≤ 18446744073709551615 ∧ n ≤ 18446744073709551615) (iN iB i : Int) (h1 : (N : Int) = iN) (h2 : (B : Int) = iB) (h3 : (n : Int) = i) (w : World) :
    Calls Try.prog 12 #[.agg #[.int .u64 iN, .int .u64 iB], .int .u64 i] w fun x w' => x = .returned (.bool b) ∧ Below w.heap.size w w' := by
  subst h1 h2 h3
  exact can_p N B n h.1 h.2.1 h.2.2 b hr w
theorem has_l (N B n : Nat) (b : Bool) (hr : hasW ⟨N, B⟩ n = b) (h : N ≤ 18446744073709551615 ∧ B ≤ 18446744073709551615 ∧ n ≤ 18446744073709551615) (iN iB i : Int) (h1 : (N : Int) = iN) (h2 : (B : Int) = iB) (h3 : (n : Int) = i) (w : World) :
    Calls Try.prog 14 #[.agg #[.int .u64 iN, .int .u64 iB], .int .u64 i] w fun x w' => x = .returned (.bool b) ∧ Below w.heap.size w w' := by
  subst h1 h2 h3
  exact has_p N B n h.1 h.2.1 h.2.2 b hr w
end Go.Proofs.Ytkdjlhnddnolaaa
