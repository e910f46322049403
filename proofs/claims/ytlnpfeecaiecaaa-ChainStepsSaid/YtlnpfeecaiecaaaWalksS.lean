/- The document's New of a store. -/
import Derived.Test.YtlnpfeecaiecaaaWalksD
namespace Go.Proofs.Ytlnpfeecaiecaaa
open Go.RowKit
set_option linter.unusedVariables false
set_option maxRecDepth 20000

set_option maxHeartbeats 400000 in
theorem new_bad (most : Int) (w : World) (h : most < 0 ∨ 1048576 < most) :
    Calls Try.prog 26 #[.int .i64 most] w fun e w' => e = .returned (.tuple #[.pointer none, .int .i64 1]) ∧ w = w' := by
  by_cases h1 : most < 0
  · have e1 : decide (most < 0) = true := by simpa using h1
    go_enter Try.func26, Try.ntmps26
    go_wp2
    go_ret2
    exact ⟨rfl, rfl⟩
  · have e1 : decide (most < 0) = false := by simpa using h1
    have e2 : decide ((1048576 : Int) < most) = true := by simp; omega
    go_enter Try.func26, Try.ntmps26
    go_wp2
    go_ret2
    exact ⟨rfl, rfl⟩

set_option maxHeartbeats 400000 in
theorem new_good (base : Nat) (most : Int) (w : World) (h1 : 0 ≤ most) (h2 : most ≤ 1048576) (hb : base ≤ w.heap.size) :
    Calls Try.prog 26 #[.int .i64 most] w fun e w' => e = .returned (.tuple #[.pointer (some ⟨w.heap.size, 0, none⟩), .int .i64 0]) ∧ RS base w.heap.size (.slice none 0 0) [] most w' ∧ Below w.heap.size w w' ∧ w'.heap.size = w.heap.size + 1 := by
  have e1 : decide (most < 0) = false := by simp; omega
  have e2 : decide ((1048576 : Int) < most) = false := by simp; omega
  go_enter Try.func26, Try.ntmps26
  go_wp2
  go_ret2
  exact ⟨rfl, ⟨heap_alloc_new w _, ⟨rfl, .inl ⟨rfl, rfl⟩⟩, hb, by simp [Value.ownBlock], by simp⟩, (Below.refl _ _).alloc (Nat.le_refl _) _, by simp⟩
end Go.Proofs.Ytlnpfeecaiecaaa
