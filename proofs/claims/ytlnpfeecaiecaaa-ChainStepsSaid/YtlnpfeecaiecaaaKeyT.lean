/- A term of the program as a key of a map: that its keys are told apart, and that each term of well formed fields has one. -/
import Derived.Test.YtlnpfeecaiecaaaWalksS
import Derived.Maps.OwnSet
import Derived.Maps.OwnOps
import Derived.DeepKeys4
namespace Go.Proofs.Ytlnpfeecaiecaaa
open Go.RowKit
open Go.Maps
set_option linter.unusedVariables false
set_option maxRecDepth 20000
theorem laidOut : laidOutB Try.prog = true := by kernel_rfl
theorem row32 : 59 < Try.prog.types.size := of_decide_eq_true (by kernel_rfl)
theorem wide32 : (match Try.prog.underlying 59 with | some (.array _ _) | some (.struct _) => true | _ => false) = true := by kernel_rfl
set_option maxRecDepth 100000 in
theorem law32 : Keyed Try.prog 59 := Keyed.of_law (deep_law_laid laidOut (m := 2) (by omega) row32 (by kernel_rfl) wide32)
theorem keyT32 : Try.prog.keyType 59 = true := by kernel_rfl
theorem cells32 : Try.prog.cellsOf 59 = 6 := by kernel_rfl
theorem cells3 : Try.prog.cellsOf 3 = 1 := by kernel_rfl
theorem cells9 : Try.prog.cellsOf 9 = 1 := by kernel_rfl
theorem cells30 : Try.prog.cellsOf 57 = 1 := by kernel_rfl
theorem term_key (t : Tm) (hS : t.S.size ≤ maxLen) (hK : (Lit.int .i64 t.K).wf = true) (hN : (Lit.int .u64 t.N).wf = true) (hA : (Lit.int .i64 t.A).wf = true) (hB : (Lit.int .i64 t.B).wf = true) (hC : (Lit.int .i64 t.C).wf = true) :
    ∃ l, keyOf Try.prog 59 t.v = some l := by
  unfold keyOf
  rw [Try.underlying59]
  simp only [keyT32, Bool.true_and]
  have hf : Value.formed Try.prog 59 t.v = true := by simp [Value.formed, Tm.v, Try.underlying59, cells32]
  rw [if_pos hf]
  obtain ⟨m, hm⟩ : ∃ m, Try.prog.types.size = m + 1 := ⟨Try.prog.types.size - 1, by have := row32; omega⟩
  rw [hm]
  simp [Program.keyLits, Tm.v, Value.cells, Try.underlying59, Try.underlying3, Try.underlying9, Try.underlying57, cells32, cells3, cells9, cells30, hS, hK, hN, hA, hB, hC]
end Go.Proofs.Ytlnpfeecaiecaaa
