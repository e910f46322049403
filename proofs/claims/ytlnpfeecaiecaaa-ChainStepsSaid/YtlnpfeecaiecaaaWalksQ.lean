/- The program's helpers of terms: what of a term its kind has, the parts of a term, whether a name is one. -/
import Derived.Test.YtlnpfeecaiecaaaWalksA
namespace Go.Proofs.Ytlnpfeecaiecaaa
open Go.RowKit
set_option linter.unusedVariables false
set_option maxRecDepth 20000

/-- A term's fields that its kind has. -/
def bareT (t : Tm) : Tm :=
  if t.K = 1 then ⟨t.K, t.S, 0, 0, 0, 0⟩ else if t.K = 2 then ⟨t.K, ⟨#[]⟩, t.N, 0, 0, 0⟩ else if t.K = 3 ∨ t.K = 5 then ⟨t.K, ⟨#[]⟩, 0, t.A, 0, 0⟩
  else if t.K = 9 then ⟨t.K, ⟨#[]⟩, t.N, t.A, 0, 0⟩ else if t.K = 10 then ⟨t.K, ⟨#[]⟩, t.N, t.A, t.B, t.C⟩ else ⟨t.K, ⟨#[]⟩, 0, t.A, t.B, 0⟩
def Tm.w (t : Tm) : Value := .agg #[.int .i64 t.K, .string t.S, .int .u64 t.N, .int .i64 t.A, .int .i64 t.B, .int .i64 t.C]

set_option maxHeartbeats 1000000 in
set_option maxRecDepth 100000 in
theorem bare_any (K : Int) (S : ByteArray) (N A B C : Int) (w : World) (h : 1 ≤ K ∧ K ≤ 11) :
    Calls Try.prog 44 #[.agg #[.int .i64 K, .string S, .int .u64 N, .int .i64 A, .int .i64 B, .int .i64 C]] w fun e w' =>
      e = .returned (bareT ⟨K, S, N, A, B, C⟩).w ∧ Below w.heap.size w w' := by
  have : K = 1 ∨ K = 2 ∨ K = 3 ∨ K = 4 ∨ K = 5 ∨ K = 6 ∨ K = 7 ∨ K = 8 ∨ K = 9 ∨ K = 10 ∨ K = 11 := by omega
  rcases this with rfl | rfl | rfl | rfl | rfl | rfl | rfl | rfl | rfl | rfl | rfl
  all_goals
    clear h
    go_enter Try.func44, Try.ntmps44
    go_wp2
    refine bodyPost_ret (v := Tm.w (bareT _)) ?_ rfl ⟨rfl, ?_⟩
    · simp [results, Try.results44, go_sem, Tm.w, bareT]
    · exact ((Below.refl _ _).alloc (Nat.le_refl _) _).alloc (by simp) _

theorem len_any (g n : Nat) (w : World) (c1 : w.cell? ⟨g, 1, none⟩ = some (.int .i64 n)) :
    Calls Try.prog 20 #[.pointer (some ⟨g, 0, none⟩)] w fun e w' => e = .returned (.int .i64 n) ∧ w = w' := by
  go_enter Try.func20, Try.ntmps20
  go_wp2
  go_ret
  exact ⟨rfl, rfl⟩

theorem has_any (g n : Nat) (name : Int) (w : World) (c1 : w.cell? ⟨g, 1, none⟩ = some (.int .i64 n)) :
    Calls Try.prog 34 #[.pointer (some ⟨g, 0, none⟩), .int .i64 name] w fun e w' => e = .returned (.bool (decide (1 ≤ name ∧ name ≤ (n : Int)))) ∧ w = w' := by
  by_cases h1 : 1 ≤ name
  · have e1 : decide ((1 : Int) ≤ name) = true := by simpa using h1
    have e2 : decide (1 ≤ name ∧ name ≤ (n : Int)) = decide (name ≤ (n : Int)) := by simp [h1]
    rw [e2]
    clear h1 e2
    go_enter Try.func34, Try.ntmps34
    go_wp2
    go_ret
    exact ⟨rfl, rfl⟩
  · have e1 : decide ((1 : Int) ≤ name) = false := by simpa using h1
    have e2 : decide (1 ≤ name ∧ name ≤ (n : Int)) = false := by simp [h1]
    rw [e2]
    clear h1 e2
    go_enter Try.func34, Try.ntmps34
    go_wp2
    go_ret
    exact ⟨rfl, rfl⟩

/-- The parts' row of a term. -/
def partsV (b : Nat) (K : Int) : Value := if many K = 0 then .slice none 0 0 else .slice (some ⟨b, 0, none⟩) (many K) (many K)
def partAt (A B C : Int) (k : Nat) : Int := if k = 0 then A else if k = 1 then B else C
/-- What the program's Parts has made: the row of a term's parts. -/
def PartsIn (w : World) (K A B C : Int) (e : Ending) (w' : World) : Prop :=
  ∃ b, e = .returned (partsV b K) ∧ Below w.heap.size w w' ∧ w.heap.size ≤ b ∧ ∀ j, j < many K → w'.cell? ⟨b, j, none⟩ = some (.int .i64 (partAt A B C j))

set_option maxHeartbeats 1000000 in
theorem parts_prog (K : Int) (S : ByteArray) (N A B C : Int) (w : World) :
    Calls Try.prog 45 #[.agg #[.int .i64 K, .string S, .int .u64 N, .int .i64 A, .int .i64 B, .int .i64 C]] w (PartsIn w K A B C) := by
  by_cases h : K = 3 ∨ K = 5 ∨ K = 9 ∨ K = 4 ∨ K = 6 ∨ K = 7 ∨ K = 8 ∨ K = 11 ∨ K = 10
  · rcases h with rfl | rfl | rfl | rfl | rfl | rfl | rfl | rfl | rfl
    all_goals
      go_enter Try.func45, Try.ntmps45
      go_wp2
      go_ret
      refine ⟨w.heap.size + 1, rfl, ((Below.refl _ _).alloc (Nat.le_refl _) _).alloc (by simp) _, by omega, ?_⟩
      intro j hj
      rw [cell_of_row _ _ j _ _ _ (heap_alloc2_new w _ _)]
      first
        | (have : j < 1 := hj
           obtain rfl : j = 0 := by omega
           rfl)
        | (have : j < 2 := hj
           rcases (by omega : j = 0 ∨ j = 1) with rfl | rfl <;> rfl)
        | (have : j < 3 := hj
           rcases (by omega : j = 0 ∨ j = 1 ∨ j = 2) with rfl | rfl | rfl <;> rfl)
  · have e : many K = 0 := by unfold many; rw [if_neg (by omega), if_neg (by omega), if_neg (by omega)]
    have h3 : (K == 3) = false := beq_eq_false_iff_ne.2 (by omega)
    have h5 : (K == 5) = false := beq_eq_false_iff_ne.2 (by omega)
    have h9 : (K == 9) = false := beq_eq_false_iff_ne.2 (by omega)
    have h4 : (K == 4) = false := beq_eq_false_iff_ne.2 (by omega)
    have h6 : (K == 6) = false := beq_eq_false_iff_ne.2 (by omega)
    have h7 : (K == 7) = false := beq_eq_false_iff_ne.2 (by omega)
    have h8 : (K == 8) = false := beq_eq_false_iff_ne.2 (by omega)
    have h11 : (K == 11) = false := beq_eq_false_iff_ne.2 (by omega)
    have h10 : (K == 10) = false := beq_eq_false_iff_ne.2 (by omega)
    have E := Lib.hid e
    clear h e
    go_enter Try.func45, Try.ntmps45
    go_wp2
    go_ret
    refine ⟨w.heap.size + 1, ?_, (Below.refl _ _).alloc (Nat.le_refl _) _, by omega, ?_⟩
    · unfold partsV; rw [if_pos E.out]; rfl
    · intro j hj; rw [E.out] at hj; omega
end Go.Proofs.Ytlnpfeecaiecaaa
