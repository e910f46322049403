/- States compared. -/
import Derived.Test.YtlejejeflgnglaaSymH
namespace Go.Proofs.Ytlejejeflgnglaa
open Go.RowKit
set_option linter.unusedVariables false
set_option linter.unusedSimpArgs false
set_option maxRecDepth 20000

def eqY (u t : Sy) : Bool := u.CK == t.CK && (u.K == t.K && (u.H == t.H && u.N == t.N))
theorem eqY_iff (u t : Sy) : eqY u t = true ↔ u = t := by
  obtain ⟨a, b, c, d⟩ := u
  obtain ⟨a', b', c', d'⟩ := t
  simp [eqY]
theorem heldY : Try.prog.stoodInHeld 25 = false := by kernel_rfl
theorem guardY : Try.prog.eqGuardType Try.prog.depth 25 = false := by kernel_rfl
theorem fieldsY : Try.prog.underlying 25 = some (.struct (Try.prog.fieldsOf 25)) := by kernel_rfl
theorem heldZ : Try.prog.stoodInHeld 31 = false := by kernel_rfl
theorem guardZ : Try.prog.eqGuardType Try.prog.depth 31 = false := by kernel_rfl
theorem fieldsZ : Try.prog.underlying 31 = some (.struct (Try.prog.fieldsOf 31)) := by kernel_rfl
theorem equal_Y (u t : Sy) (w : World) : (Op.equalIn 10000 25 u.v t.v).run Try.prog w = .ok (eqY u t) w := by
  unfold Sy.v
  rw [run_equalIn_agg _ _ _ _ _ fieldsY heldY]
  have hf : (Try.prog.fieldsOf 25).toList = (match Try.prog.underlying 25 with | some (.struct fs) => fs.toList | _ => []) := by kernel_rfl
  rw [hf, Try.underlying25]
  have i3 := fun (w : World) (a b : Int) => run_equalIn_int (P := Try.prog) w 9998 3 .i64 .i64 a b Try.underlying3
  have i30 := fun (w : World) (a b : Int) => run_equalIn_int (P := Try.prog) w 9998 23 .u64 .u64 a b Try.underlying23
  simp only [Op.eqFields, eqY]
  cases h1 : (u.CK == t.CK)
  · go_simp
  cases h2 : (u.K == t.K)
  · go_simp
  cases h3 : (u.H == t.H)
  · go_simp
  cases h4 : (u.N == t.N)
  · go_simp
  go_simp
theorem equal_Z (u t : Sy) (w : World) : (Op.equalIn 10000 31 u.v t.v).run Try.prog w = .ok (eqY u t) w := by
  unfold Sy.v
  rw [run_equalIn_agg _ _ _ _ _ fieldsZ heldZ]
  have hf : (Try.prog.fieldsOf 31).toList = (match Try.prog.underlying 31 with | some (.struct fs) => fs.toList | _ => []) := by kernel_rfl
  rw [hf, Try.underlying31]
  have i3 := fun (w : World) (a b : Int) => run_equalIn_int (P := Try.prog) w 9998 3 .i64 .i64 a b Try.underlying3
  have i30 := fun (w : World) (a b : Int) => run_equalIn_int (P := Try.prog) w 9998 23 .u64 .u64 a b Try.underlying23
  simp only [Op.eqFields, eqY]
  cases h1 : (u.CK == t.CK)
  · go_simp
  cases h2 : (u.K == t.K)
  · go_simp
  cases h3 : (u.H == t.H)
  · go_simp
  cases h4 : (u.N == t.N)
  · go_simp
  go_simp
theorem eql_Y (u t : Sy) (w : World) : (binOp .eql 25 u.v t.v).run Try.prog w = .ok (.bool (eqY u t)) w := by
  have h := equal_Y u t w
  unfold Sy.v at *
  rw [run_eql_struct, h]; rfl
theorem neq_Y (u t : Sy) (w : World) : (binOp .neq 25 u.v t.v).run Try.prog w = .ok (.bool (!eqY u t)) w := by
  have h := equal_Y u t w
  unfold Sy.v at *
  rw [run_neq_struct, h]; rfl
theorem neq_Z (u t : Sy) (w : World) : (binOp .neq 31 u.v t.v).run Try.prog w = .ok (.bool (!eqY u t)) w := by
  have h := equal_Z u t w
  unfold Sy.v at *
  rw [run_neq_struct, h]; rfl
end Go.Proofs.Ytlejejeflgnglaa
