/- The document's All: it answers the names of the least set that has what is known and what is made of its own, or that one of them is no name. The document's Can: whether a name is in the least set, or what is wrong. -/
import Derived.Test.YtlnpfeecaiecaaaKnowN
namespace Go.Proofs.Ytlnpfeecaiecaaa
open Go.RowKit
set_option linter.unusedVariables false
set_option linter.unusedSimpArgs false
set_option maxRecDepth 20000

/-- A row's length, a bool's number: for a measure. -/
def lenV : Value → Nat
  | .slice _ n _ => n
  | _ => 0
def boolV : Value → Nat
  | .bool true => 1
  | _ => 0
/-- What All answers: the names, in a row that the call owns, or that one is no name. -/
def AllPost (base : Nat) (L : List Tm) (ks : List Int) (dh kem : Bool) (w : World) (e : Ending) (w' : World) : Prop :=
  Below w.heap.size w w' ∧ (((∃ x, x ∈ ks ∧ ¬ InL L x) ∧ e = .returned (.tuple #[.slice none 0 0, .int .i64 1])) ∨
    ((∀ x, x ∈ ks → InL L x) ∧ ∃ C v, Least L ks dh kem C ∧ e = .returned (.tuple #[v, .int .i64 0]) ∧ OwnI base v (namesIn L C) w'))

end Go.Proofs.Ytlnpfeecaiecaaa

namespace Go.Proofs.Ytlnpfeecaiecaaa
open Go.RowKit
set_option linter.unusedVariables false
set_option linter.unusedSimpArgs false
set_option maxRecDepth 20000

theorem has_names {L : List Tm} (hf : Fit L) {ks : List Int} (hk : ∀ x, x ∈ ks → InL L x) {dh kem : Bool} {C : Int → Bool} (hC : Least L ks dh kem C) (n : Int) : has (namesIn L C) n = C n := by
  rw [Bool.eq_iff_iff, has_iff, mem_namesIn]
  exact ⟨fun h => h.2, fun h => ⟨hC.inL hf hk h, h⟩⟩
/-- What Can answers. -/
def CanPost (L : List Tm) (ks : List Int) (dh kem : Bool) (name : Int) (w : World) (e : Ending) (w' : World) : Prop :=
  Below w.heap.size w w' ∧ (((∃ x, x ∈ ks ∧ ¬ InL L x) ∧ e = .returned (.tuple #[.bool false, .int .i64 1])) ∨
    ((∀ x, x ∈ ks → InL L x) ∧ ¬ InL L name ∧ e = .returned (.tuple #[.bool false, .int .i64 5])) ∨
    ((∀ x, x ∈ ks → InL L x) ∧ InL L name ∧ ∃ C, Least L ks dh kem C ∧ e = .returned (.tuple #[.bool (C name), .int .i64 0])))

end Go.Proofs.Ytlnpfeecaiecaaa
