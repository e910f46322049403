/- The program's and the document's wrapping keys and wrapped secrets, as functions of a store's terms: contracts of all their calls. -/
import Derived.Test.YtlnpfeecaiecaaaWords
import Derived.Test.YtlnpfeecaiecaaaBeside
namespace Go.Proofs.Ytlnpfeecaiecaaa
open Go.RowKit
set_option linter.unusedVariables false

def kpubT (x : Int) : Tm := ⟨5, ⟨#[]⟩, 0, x, 0, 0⟩
def boxT (x y : Int) : Tm := ⟨6, ⟨#[]⟩, 0, x, y, 0⟩
def kemT (x y : Int) : Tm := ⟨7, ⟨#[]⟩, 0, x, y, 0⟩
theorem kpub_wf {x : Int} (h : I64 x) : Wf (kpubT x) := ⟨wf_emp, k5, u0, h, k0, k0⟩
theorem box_wf {x y : Int} (h : I64 x) (k : I64 y) : Wf (boxT x y) := ⟨wf_emp, k6, u0, h, k, k0⟩
theorem kem_wf {x y : Int} (h : I64 x) (k : I64 y) : Wf (kemT x y) := ⟨wf_emp, k7, u0, h, k, k0⟩

/-- What is wrapped: both names, or what is wrong, and the terms that are there then. -/
def wrapF (L : List Tm) (most p d : Int) : Int × Int × Int × List Tm :=
  if (getT L p).2 = true ∧ (getT L d).2 = true ∧ (getT L p).1.K = 5 then
    let x := putF L most (boxT (getT L p).1.A d)
    if x.2.1 ≠ 0 then (0, 0, x.2.1, x.2.2) else
      let y := putF x.2.2 most (kemT (getT L p).1.A d)
      if y.2.1 ≠ 0 then (0, 0, y.2.1, y.2.2) else (x.1, y.1, 0, y.2.2)
  else (0, 0, 1, L)
/-- What is opened. -/
def openF (L : List Tm) (most x c : Int) : Int × Int × List Tm :=
  if (getT L x).2 = true ∧ (getT L c).2 = true then
    if (getT L c).1.K = 6 ∧ (getT L c).1.A = x then putF L most (kemT x (getT L c).1.B) else (0, 10, L)
  else (0, 1, L)

/-- Terms that are put one by one, all of them so far. -/
inductive Run (most : Int) (T : Nat → Tm) (L : List Tm) : Nat → List Int → List Tm → Prop
  | nil : Run most T L 0 [] L
  | snoc {k : Nat} {ns : List Int} {M N : List Tm} {a : Int} : Run most T L k ns M → putF M most (T k) = (a, 0, N) → Run most T L (k + 1) (ns ++ [a]) N
theorem Run.len {most : Int} {T : Nat → Tm} {L M : List Tm} {k : Nat} {ns : List Int} (h : Run most T L k ns M) : ns.length = k := by
  induction h with
  | nil => rfl
  | snoc _ _ ih => simp [ih]

section
variable {base g : Nat} {most : Int} {Q2 : (Nat → Prop) → List Tm → World → Prop} {L L2 : List Tm} {K : Nat → Prop} {w0 w : World}



/-- The terms of names: of all, or of none, if one is no term's. -/
def TermsPost (T : Nat → Tm) (m n : Nat) (P : World → Prop) (w : World) (e : Ending) (w' : World) : Prop :=
  P w' ∧ Below w.heap.size w w' ∧
    ((m = n ∧ ∃ g cap, e = .returned (.tuple #[.slice (some ⟨g, 0, none⟩) n cap, .bool true]) ∧ ∀ k, k < n → ∀ j u, (T k).cl[j]? = some u → w'.cell? ⟨g, k * 6 + j, none⟩ = some u) ∨
     (m < n ∧ e = .returned (.tuple #[.slice none 0 0, .bool false])))
theorem termsPost_no {T : Nat → Tm} {m n : Nat} {P : World → Prop} {w w' : World} (h1 : P w') (h2 : Below w.heap.size w w') (h3 : m < n) : TermsPost T m n P w (.returned (.tuple #[.slice none 0 0, .bool false])) w' := ⟨h1, h2, .inr ⟨h3, rfl⟩⟩
def rowsT (T : Nat → Tm) (k : Nat) : List Tm := (List.range k).map T
theorem rowsT_succ (T : Nat → Tm) (k : Nat) : rowsT T (k + 1) = rowsT T k ++ [T k] := by simp [rowsT, List.range_succ]
theorem rowsT_len (T : Nat → Tm) (k : Nat) : (rowsT T k).length = k := by simp [rowsT]
theorem cellsL_snoc (M : List Tm) (t : Tm) : cellsL (M ++ [t]) = cellsL M ++ t.cl := by simp [cellsL]
theorem rowsT_at (T : Nat → Tm) (n k : Nat) (h : k < n) : (rowsT T n).getD k zeroT = T k := by simp [rowsT, List.getD, h]

theorem cells_row {w : World} {base gg k cp j i : Nat} {T : Nat → Tm} {u : Value} (h : w.ownsRow base 59 6 (.slice (some ⟨gg, 0, none⟩) k cp) k (cellsL (rowsT T k))) (hj : j < k) (hu : (T j).cl[i]? = some u) : w.cell? ⟨gg, j * 6 + i, none⟩ = some u := by
  have hi6 : i < 6 := by
    rcases Nat.lt_or_ge i 6 with q | q
    · exact q
    · rw [List.getElem?_eq_none (by simp [Tm.cl]; omega)] at hu; cases hu
  have := h.cells (g := gg) rfl (j * 6 + i) u (by rw [cellsL_at _ j i hi6 (by rw [rowsT_len]; exact hj), rowsT_at T k j hj]; exact hu)
  have e : (⟨gg, 0, none⟩ : Addr).add (j * 6 + i) = ⟨gg, j * 6 + i, none⟩ := by unfold Addr.add; split <;> simp_all
  rwa [e] at this


/-- The names of terms that are put one by one: of all, or what is wrong with the first one that cannot be. -/
def NamesPost (most : Int) (T : Nat → Tm) (L : List Tm) (n : Nat) (P : List Tm → World → Prop) (K : Nat → Prop) (w : World) (e : Ending) (w' : World) : Prop :=
  (∀ k, K k → w'.heap[k]? = w.heap[k]?) ∧
    ((∃ ns M gg cap, Run most T L n ns M ∧ e = .returned (.tuple #[.slice (some ⟨gg, 0, none⟩) n cap, .int .i64 0]) ∧ P M w' ∧ ∀ j x, ns[j]? = some x → w'.cell? ⟨gg, j, none⟩ = some (.int .i64 x)) ∨
     (∃ j ns M a b M', j < n ∧ Run most T L j ns M ∧ putF M most (T j) = (a, b, M') ∧ b ≠ 0 ∧ e = .returned (.tuple #[.slice none 0 0, .int .i64 b]) ∧ P M' w'))
theorem ints_row {w : World} {base gg n cp j : Nat} {ns : List Int} {x : Int} (h : w.ownsRow base 3 1 (.slice (some ⟨gg, 0, none⟩) n cp) ns.length (intsR ns)) (hj : ns[j]? = some x) : w.cell? ⟨gg, j, none⟩ = some (.int .i64 x) := by
  have := h.cells (g := gg) rfl j (.int .i64 x) (by simp [intsR, hj])
  have e : (⟨gg, 0, none⟩ : Addr).add j = ⟨gg, j, none⟩ := by unfold Addr.add; split <;> simp_all
  rwa [e] at this


def twoT (t u : Tm) : Nat → Tm := fun k => if k = 0 then t else u
def twoN (x y : Int) : Nat → Int := fun k => if k = 0 then x else y
theorem run_two {most : Int} {t u : Tm} {L M : List Tm} {ns : List Int} (h : Run most (twoT t u) L 2 ns M) : ∃ a b M1, ns = [a, b] ∧ putF L most t = (a, 0, M1) ∧ putF M1 most u = (b, 0, M) := by
  cases h with
  | snoc h1 e1 => cases h1 with
    | snoc h2 e2 => cases h2 with
      | nil => exact ⟨_, _, _, rfl, e2, e1⟩
theorem run_err {most : Int} {t u : Tm} {L M M' : List Tm} {ns : List Int} {j : Nat} {a b : Int} (hj : j < 2) (h : Run most (twoT t u) L j ns M) (hp : putF M most (twoT t u j) = (a, b, M')) (hb : b ≠ 0) :
    putF L most t = (a, b, M') ∨ ∃ c M1, putF L most t = (c, 0, M1) ∧ putF M1 most u = (a, b, M') := by
  cases h with
  | nil => exact .inl hp
  | snoc h1 e1 => cases h1 with
    | nil => exact .inr ⟨_, _, e1, hp⟩
    | snoc h2 e2 => omega
theorem wrap_no {L : List Tm} {most p d : Int} (h : ¬ ((getT L p).2 = true ∧ (getT L d).2 = true ∧ (getT L p).1.K = 5)) : wrapF L most p d = (0, 0, 1, L) := by
  unfold wrapF
  rw [if_neg h]
theorem wrap_yes {L M1 M : List Tm} {most p d A a b : Int} {tp td : Tm} (h1 : getT L p = (tp, true)) (h2 : getT L d = (td, true)) (hK : tp.K = 5) (hA : tp.A = A) (e1 : putF L most (boxT A d) = (a, 0, M1)) (e2 : putF M1 most (kemT A d) = (b, 0, M)) : wrapF L most p d = (a, b, 0, M) := by
  unfold wrapF
  rw [h1, h2, if_pos ⟨rfl, rfl, hK⟩]
  simp only [hA, e1, e2]
  simp
theorem wrap_err {L M : List Tm} {most p d A a b : Int} {tp td : Tm} (h1 : getT L p = (tp, true)) (h2 : getT L d = (td, true)) (hK : tp.K = 5) (hA : tp.A = A) (hb : b ≠ 0)
    (h : putF L most (boxT A d) = (a, b, M) ∨ ∃ c M1, putF L most (boxT A d) = (c, 0, M1) ∧ putF M1 most (kemT A d) = (a, b, M)) : wrapF L most p d = (0, 0, b, M) := by
  unfold wrapF
  rw [h1, h2, if_pos ⟨rfl, rfl, hK⟩]
  rcases h with e | ⟨c, M1, e1, e2⟩
  · simp [hA, e, hb]
  · simp [hA, e1, e2, hb]


theorem two_cells (A d : Int) (w2 : World) : ∀ k, k < 2 → ∀ j u, (twoT (boxT A d) (kemT A d) k).cl[j]? = some u → (w2.alloc (.cells #[.int .i64 6, .string ⟨#[]⟩, .int .u64 0, .int .i64 A, .int .i64 d, .int .i64 0, .int .i64 7, .string ⟨#[]⟩, .int .u64 0, .int .i64 A, .int .i64 d, .int .i64 0] 59)).cell? ⟨w2.heap.size, k * 6 + j, none⟩ = some u := by
  intro k hk j u hu
  rw [cell_of_row _ _ _ _ _ _ (heap_alloc_new w2 _)]
  have hj6 : j < 6 := by
    rcases Nat.lt_or_ge j 6 with q | q
    · exact q
    · rw [List.getElem?_eq_none (by simp [Tm.cl]; omega)] at hu; cases hu
  rcases (by omega : k = 0 ∨ k = 1) with rfl | rfl <;>
    rcases (by omega : j = 0 ∨ j = 1 ∨ j = 2 ∨ j = 3 ∨ j = 4 ∨ j = 5) with rfl | rfl | rfl | rfl | rfl | rfl <;>
    exact hu



theorem open_arg {L : List Tm} {most x c : Int} (h : ¬ ((getT L x).2 = true ∧ (getT L c).2 = true)) : openF L most x c = (0, 1, L) := by
  unfold openF
  rw [if_neg h]
theorem open_box {L : List Tm} {most x c : Int} {tx tc : Tm} (h1 : getT L x = (tx, true)) (h2 : getT L c = (tc, true)) (h : ¬ (tc.K = 6 ∧ tc.A = x)) : openF L most x c = (0, 10, L) := by
  unfold openF
  rw [h1, h2, if_pos ⟨rfl, rfl⟩, if_neg h]
theorem open_yes {L : List Tm} {most x c B : Int} {tx tc : Tm} (h1 : getT L x = (tx, true)) (h2 : getT L c = (tc, true)) (h : tc.K = 6 ∧ tc.A = x) (hB : tc.B = B) : openF L most x c = putF L most (kemT x B) := by
  unfold openF
  rw [h1, h2, if_pos ⟨rfl, rfl⟩, if_pos h, hB]


end
end Go.Proofs.Ytlnpfeecaiecaaa
