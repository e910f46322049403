/- The document's helpers of terms: how many parts a kind has. -/
import Derived.Test.YtlnpfeecaiecaaaProg
import Derived.WalkKit
import Derived.WalkSpells
import Derived.WalkLawsBesides
import Derived.Lib.Hide
namespace Go.Proofs.Ytlnpfeecaiecaaa
open Go.RowKit
set_option linter.unusedVariables false
set_option maxRecDepth 20000

/-- How many parts a kind has. -/
def many (k : Int) : Nat :=
  if k = 3 ∨ k = 5 ∨ k = 9 then 1 else if k = 4 ∨ k = 6 ∨ k = 7 ∨ k = 8 ∨ k = 11 then 2 else if k = 10 then 3 else 0

set_option maxHeartbeats 400000 in
theorem many_any (k : Int) (w : World) :
    Calls Try.prog 56 #[.int .i64 k] w fun e w' => e = .returned (.int .i64 (many k)) ∧ w = w' := by
  by_cases h : k = 3 ∨ k = 5 ∨ k = 9 ∨ k = 4 ∨ k = 6 ∨ k = 7 ∨ k = 8 ∨ k = 11 ∨ k = 10
  · rcases h with rfl | rfl | rfl | rfl | rfl | rfl | rfl | rfl | rfl
    all_goals
      go_enter Try.func56, Try.ntmps56
      go_wp2
      go_ret
      exact ⟨rfl, rfl⟩
  · have e : many k = 0 := by unfold many; rw [if_neg (by omega), if_neg (by omega), if_neg (by omega)]
    rw [e]
    have h3 : (k == 3) = false := beq_eq_false_iff_ne.2 (by omega)
    have h5 : (k == 5) = false := beq_eq_false_iff_ne.2 (by omega)
    have h9 : (k == 9) = false := beq_eq_false_iff_ne.2 (by omega)
    have h4 : (k == 4) = false := beq_eq_false_iff_ne.2 (by omega)
    have h6 : (k == 6) = false := beq_eq_false_iff_ne.2 (by omega)
    have h7 : (k == 7) = false := beq_eq_false_iff_ne.2 (by omega)
    have h8 : (k == 8) = false := beq_eq_false_iff_ne.2 (by omega)
    have h11 : (k == 11) = false := beq_eq_false_iff_ne.2 (by omega)
    have h10 : (k == 10) = false := beq_eq_false_iff_ne.2 (by omega)
    clear h e
    go_enter Try.func56, Try.ntmps56
    go_wp2
    go_ret
    exact ⟨rfl, rfl⟩

theorem many_le (k : Int) : many k ≤ 3 := by unfold many; split <;> (try split) <;> (try split) <;> omega

/-- A term's cells. -/
structure Tm where
  K : Int
  S : ByteArray
  N : Int
  A : Int
  B : Int
  C : Int
def Tm.cells (t : Tm) : Array Value := #[.int .i64 t.K, .string t.S, .int .u64 t.N, .int .i64 t.A, .int .i64 t.B, .int .i64 t.C]

set_option maxHeartbeats 400000 in
theorem ref_any (K : Int) (S : ByteArray) (N A B C : Int) (w : World) :
    Calls Try.prog 28 #[.agg #[.int .i64 K, .string S, .int .u64 N, .int .i64 A, .int .i64 B, .int .i64 C]] w fun e w' =>
      e = .returned (.agg #[.int .i64 K, .string S, .int .u64 N, .int .i64 A, .int .i64 B, .int .i64 C]) ∧ Below w.heap.size w w' := by
  go_enter Try.func28, Try.ntmps28
  go_wp2
  exact bodyPost_ret (v := .agg #[.int .i64 K, .string S, .int .u64 N, .int .i64 A, .int .i64 B, .int .i64 C]) (by simp [results, Try.results28, go_sem]) rfl ⟨rfl, ((Below.refl _ _).alloc (Nat.le_refl _) _).alloc (by simp) _⟩

set_option maxHeartbeats 400000 in
theorem cut_any (K : Int) (S T : ByteArray) (N A B C : Int) (w : World) (m0 : min (S.size : Int) 1100 = T.size) (u0 : T.size ≤ S.size) (v0 : T.size ≤ 1100) (x0 : S.extract 0 T.size = T) (hS : S.size ≤ maxLen) :
    Calls Try.prog 25 #[.agg #[.int .i64 K, .string S, .int .u64 N, .int .i64 A, .int .i64 B, .int .i64 C]] w fun e w' =>
      e = .returned (.agg #[.int .i64 K, .string T, .int .u64 N, .int .i64 A, .int .i64 B, .int .i64 C]) ∧ Below w.heap.size w w' := by
  unfold maxLen at hS
  have m1 : (if (1100 : Int) < (S.size : Int) then (1100 : Int) else (S.size : Int)) = (T.size : Int) := by rw [← m0]; omega
  clear m0
  go_enter Try.func25, Try.ntmps25
  go_wp2_with fail
  go_goals
  exact bodyPost_ret (v := .agg #[.int .i64 K, .string T, .int .u64 N, .int .i64 A, .int .i64 B, .int .i64 C]) (by simp [results, Try.results25, go_sem]) rfl ⟨rfl, ((Below.refl _ _).alloc (Nat.le_refl _) _).alloc (by simp) _⟩
end Go.Proofs.Ytlnpfeecaiecaaa
