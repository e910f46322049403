/- The law's Same of both stores: one, where both have the same terms. -/
import Derived.Test.YtdhfnbajmjmlbaaStores
namespace Go.Proofs.Ytdhfnbajmjmlbaa
open Go.RowKit
set_option linter.unusedVariables false
set_option maxRecDepth 20000

theorem getIn (L : List Tm) (k : Nat) (h : k < L.length) : getT L ((k : Int) + 1) = (L.getD k zeroT, true) := by unfold getT; rw [if_pos (by omega), show ((k : Int) + 1 - 1).toNat = k from by omega]
theorem wrap_small (n : Int) (h1 : 0 ≤ n) (h2 : n ≤ 4611686018427387904) : IntKind.i64.wrap n = n := by
  unfold IntKind.wrap
  have e1 : IntKind.i64.bits = 64 := rfl
  have e2 : IntKind.i64.signed = true := rfl
  simp only [e1, e2, Bool.true_and]
  have : n % 2 ^ 64 = n := by omega
  rw [this, if_neg]
  simp
  omega
theorem neqR_same (t : Tm) (w : World) : (binOp .neq 61 t.v t.v).run Try.prog w = .ok (.bool false) w := by
  have h := eql_term t t w
  rw [(eqB_iff t t).2 rfl] at h
  have h2 : (Op.equalIn 10000 61 t.v t.v).run Try.prog w = .ok true w := by
    unfold Tm.v at h ⊢
    rw [run_eql_struct] at h
    cases he : (Op.equalIn 10000 61 (.agg #[.int .i64 t.K, .string t.S, .int .u64 t.N, .int .i64 t.A, .int .i64 t.B, .int .i64 t.C]) (.agg #[.int .i64 t.K, .string t.S, .int .u64 t.N, .int .i64 t.A, .int .i64 t.B, .int .i64 t.C])).run Try.prog w with
    | ok b w' => rw [he] at h; simp [Result.andThen] at h; obtain ⟨rfl, rfl⟩ := h; rfl
    | _ => rw [he] at h; simp [Result.andThen] at h
  unfold Tm.v at h2 ⊢
  rw [run_neq_struct, h2]; rfl

end Go.Proofs.Ytdhfnbajmjmlbaa
