/- A term of the program as a key of a map: that its keys are told apart, and that each term of well formed fields has one. -/
import Derived.Test.YtdhfnbajmjmlbaaWalksS
import Derived.Maps.OwnSet
import Derived.Maps.OwnOps
import Derived.DeepKeys4
namespace Go.Proofs.Ytdhfnbajmjmlbaa
open Go.RowKit
open Go.Maps
set_option linter.unusedVariables false
set_option maxRecDepth 20000
theorem laidOut : laidOutB Try.prog = true := by kernel_rfl
theorem row32 : 48 < Try.prog.types.size := of_decide_eq_true (by kernel_rfl)
theorem wide32 : (match Try.prog.underlying 48 with | some (.array _ _) | some (.struct _) => true | _ => false) = true := by kernel_rfl
set_option maxRecDepth 100000 in
theorem law32 : Keyed Try.prog 48 := Keyed.of_law (deep_law_laid laidOut (m := 2) (by omega) row32 (by kernel_rfl) wide32)
theorem keyT32 : Try.prog.keyType 48 = true := by kernel_rfl
theorem cells32 : Try.prog.cellsOf 48 = 6 := by kernel_rfl
theorem cells3 : Try.prog.cellsOf 3 = 1 := by kernel_rfl
theorem cells9 : Try.prog.cellsOf 9 = 1 := by kernel_rfl
theorem cells30 : Try.prog.cellsOf 46 = 1 := by kernel_rfl
theorem term_key (t : Tm) (hS : t.S.size ≤ maxLen) (hK : (Lit.int .i64 t.K).wf = true) (hN : (Lit.int .u64 t.N).wf = true) (hA : (Lit.int .i64 t.A).wf = true) (hB : (Lit.int .i64 t.B).wf = true) (hC : (Lit.int .i64 t.C).wf = true) :
    ∃ l, keyOf Try.prog 48 t.v = some l := by
  unfold keyOf
  rw [Try.underlying48]
  simp only [keyT32, Bool.true_and]
  have hf : Value.formed Try.prog 48 t.v = true := by simp [Value.formed, Tm.v, Try.underlying48, cells32]
  rw [if_pos hf]
  obtain ⟨m, hm⟩ : ∃ m, Try.prog.types.size = m + 1 := ⟨Try.prog.types.size - 1, by have := row32; omega⟩
  rw [hm]
  simp [Program.keyLits, Tm.v, Value.cells, Try.underlying48, Try.underlying3, Try.underlying9, Try.underlying46, cells32, cells3, cells9, cells30, hS, hK, hN, hA, hB, hC]
end Go.Proofs.Ytdhfnbajmjmlbaa
