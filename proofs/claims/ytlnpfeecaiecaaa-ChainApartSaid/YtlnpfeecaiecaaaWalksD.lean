/- How deep the names of a row of terms are. -/
import Derived.Test.YtlnpfeecaiecaaaWalksP
namespace Go.Proofs.Ytlnpfeecaiecaaa
open Go.RowKit
set_option linter.unusedVariables false
set_option maxRecDepth 20000

/-- The deepest of the first j parts. -/
def mx (acc : List Nat) (t : Tm) : Nat → Nat
  | 0 => 0
  | j + 1 => max (mx acc t j) (acc.getD (prt t.A t.B t.C j).toNat 0)
def stepD (acc : List Nat) (t : Tm) : List Nat := acc ++ [mx acc t (many t.K) + 1]
/-- How deep the names 0 and on are. -/
def depths : List Tm → List Nat := fun L => L.foldl stepD [0]
theorem depths_snoc (L : List Tm) (t : Tm) : depths (L ++ [t]) = stepD (depths L) t := by simp [depths]
theorem depths_length (L : List Tm) : (depths L).length = L.length + 1 := by
  unfold depths
  suffices h : ∀ (L : List Tm) (acc : List Nat), (L.foldl stepD acc).length = acc.length + L.length by rw [h]; simp; omega
  intro L
  induction L with
  | nil => intro acc; simp
  | cons t L ih => intro acc; rw [List.foldl_cons, ih]; simp [stepD]; omega
/-- Each term's parts are names ahead of it. -/
def Fit (L : List Tm) : Prop := ∀ k, k < L.length → ∀ j, j < many (L.getD k zeroT).K → 1 ≤ prt (L.getD k zeroT).A (L.getD k zeroT).B (L.getD k zeroT).C j ∧ prt (L.getD k zeroT).A (L.getD k zeroT).B (L.getD k zeroT).C j ≤ (k : Int)
def depthOf (L : List Tm) (name : Int) : Int := if 1 ≤ name ∧ name ≤ (L.length : Int) then ((depths (L.take name.toNat)).getD name.toNat 0 : Nat) else 0
def intsV (l : List Nat) : List Value := l.map fun (n : Nat) => Value.int .i64 n
theorem take_snocT (L : List Tm) (k : Nat) (h : k < L.length) : L.take (k + 1) = L.take k ++ [L.getD k zeroT] := by
  rw [List.take_succ_eq_append_getElem h]; simp [List.getD, h]
theorem mx_le (acc : List Nat) (t : Tm) (M : Nat) (h : ∀ i, acc.getD i 0 ≤ M) : ∀ j, mx acc t j ≤ M := by
  intro j
  induction j with
  | zero => exact Nat.zero_le _
  | succ j ih => have := h (prt t.A t.B t.C j).toNat; simp only [mx]; omega
theorem depths_le (L : List Tm) : ∀ k, k ≤ L.length → ∀ i, (depths (L.take k)).getD i 0 ≤ k := by
  intro k
  induction k with
  | zero => intro _ i; cases i <;> simp [depths]
  | succ k ih =>
    intro hk i
    rw [take_snocT L k (by omega), depths_snoc, stepD]
    have h1 := mx_le _ (L.getD k zeroT) k (ih (by omega)) (many (L.getD k zeroT).K)
    have h2 := ih (by omega) i
    generalize L.getD k zeroT = u at h1 ⊢
    simp only [List.getD_eq_getElem?_getD] at h2 ⊢
    rw [List.getElem?_append]
    split
    · omega
    · cases hq : i - (depths (L.take k)).length with
      | zero => simp; omega
      | succ q => simp

theorem vmax (a b : Nat) : Value.int .i64 (if a < b then (b : Int) else (a : Int)) = Value.int .i64 ((max a b : Nat) : Int) := by congr 1; split <;> omega

theorem info3 : (Try.prog.info? 3).map (fun i => (i.zero, i.size, i.bytes)) = some (some (.int .i64 0), 1, 8) := by kernel_rfl

end Go.Proofs.Ytlnpfeecaiecaaa
