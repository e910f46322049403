/- What a store's terms say of names: the name that a term has, what Put answers as a function, and that both ways to say whether a term may be are one. -/
import Derived.Test.YtlnpfeecaiecaaaWalksR
import Derived.Test.YtlnpfeecaiecaaaKeyT
namespace Go.Proofs.Ytlnpfeecaiecaaa
open Go.RowKit
set_option linter.unusedVariables false
set_option maxRecDepth 20000

/-- The name that a term has, 0 if none. -/
def nameOf (L : List Tm) (t : Tm) : Int := match L.findIdx? (fun u => eqB u t) with
  | some k => (k : Int) + 1
  | none => 0
theorem nameOf_nil (t : Tm) : nameOf [] t = 0 := rfl
theorem nameOf_cases (L : List Tm) (t : Tm) : (nameOf L t = 0 ∧ ∀ j, j < L.length → L.getD j zeroT ≠ t) ∨
    ∃ k, k < L.length ∧ nameOf L t = (k : Int) + 1 ∧ L.getD k zeroT = t ∧ ∀ j, j < k → L.getD j zeroT ≠ t := by
  unfold nameOf
  cases h : L.findIdx? (fun u => eqB u t) with
  | none =>
    left
    refine ⟨rfl, ?_⟩
    intro j hj hjt
    rw [List.findIdx?_eq_none_iff] at h
    have := h (L.getD j zeroT) (by simp [List.getD, hj])
    rw [hjt] at this
    have h2 := (eqB_iff t t).2 rfl
    rw [h2] at this; cases this
  | some k =>
    right
    rw [List.findIdx?_eq_some_iff_getElem] at h
    obtain ⟨hk, h1, h2⟩ := h
    refine ⟨k, hk, rfl, by have := (eqB_iff _ _).1 h1; simpa [List.getD, hk] using this, ?_⟩
    intro j hj hjt
    have h3 := h2 j hj
    have hjl : j < L.length := Nat.lt_trans hj hk
    simp [List.getD, hjl] at hjt
    rw [hjt] at h3
    exact h3 ((eqB_iff t t).2 rfl)
theorem nameOf_of (L : List Tm) (t : Tm) (k : Nat) (hk : k < L.length) (ht : L.getD k zeroT = t) (hj : ∀ j, j < k → L.getD j zeroT ≠ t) : nameOf L t = (k : Int) + 1 := by
  rcases nameOf_cases L t with ⟨_, h⟩ | ⟨k', hk', h1, h2, h3⟩
  · exact absurd ht (h k hk)
  · rcases Nat.lt_trichotomy k k' with q | q | q
    · exact absurd ht (h3 k q)
    · rw [q]; exact h1
    · exact absurd h2 (hj k' q)
theorem nameOf_zero (L : List Tm) (t : Tm) (h : ∀ j, j < L.length → L.getD j zeroT ≠ t) : nameOf L t = 0 := by
  rcases nameOf_cases L t with ⟨h, _⟩ | ⟨k', hk', h1, h2, h3⟩
  · exact h
  · exact absurd h2 (h k' hk')
theorem nameOf_le (L : List Tm) (t : Tm) : 0 ≤ nameOf L t ∧ nameOf L t ≤ (L.length : Int) := by
  rcases nameOf_cases L t with ⟨h, _⟩ | ⟨k', hk', h1, h2, h3⟩ <;> omega
theorem getD_snoc_lt (L : List Tm) (t : Tm) (j : Nat) (h : j < L.length) : (L ++ [t]).getD j zeroT = L.getD j zeroT := by simp [List.getD, List.getElem?_append_left h]
theorem getD_snoc_eq (L : List Tm) (t : Tm) : (L ++ [t]).getD L.length zeroT = t := by simp [List.getD]
theorem nameOf_snoc_same (L : List Tm) (t : Tm) (h : nameOf L t = 0) : nameOf (L ++ [t]) t = (L.length : Int) + 1 := by
  rcases nameOf_cases L t with ⟨_, h0⟩ | ⟨k', hk', h1, h2, h3⟩
  · exact nameOf_of _ _ L.length (by simp) (getD_snoc_eq L t) (fun j hj => by rw [getD_snoc_lt L t j hj]; exact h0 j hj)
  · omega
theorem nameOf_snoc_other (L : List Tm) (t u : Tm) (h : u ≠ t) : nameOf (L ++ [t]) u = nameOf L u := by
  rcases nameOf_cases L u with ⟨h1, h0⟩ | ⟨k, hk, h1, h2, h3⟩
  · rw [h1]
    apply nameOf_zero
    intro j hj
    have hj' : j < L.length + 1 := by simpa using hj
    rcases Nat.lt_succ_iff_lt_or_eq.1 hj' with q | rfl
    · rw [getD_snoc_lt L t j q]; exact h0 j q
    · rw [getD_snoc_eq]; exact Ne.symm h
  · rw [h1]
    exact nameOf_of _ _ k (by simp; omega) (by rw [getD_snoc_lt L t k hk]; exact h2) (fun j hj => by rw [getD_snoc_lt L t j (by omega)]; exact h3 j hj)
theorem nameOf_snoc_old (L : List Tm) (t u : Tm) (h : nameOf L u ≠ 0) : nameOf (L ++ [t]) u = nameOf L u := by
  rcases nameOf_cases L u with ⟨h1, h0⟩ | ⟨k, hk, h1, h2, h3⟩
  · exact absurd h1 h
  · rw [h1]
    exact nameOf_of _ _ k (by simp; omega) (by rw [getD_snoc_lt L t k hk]; exact h2) (fun j hj => by rw [getD_snoc_lt L t j (by omega)]; exact h3 j hj)

instance (n m i : Nat) (p : Int) : Decidable (BadP n m i p) := by unfold BadP; infer_instance
instance (n : Nat) (K : Int) (S : ByteArray) (N A B C : Int) : Decidable (May n K S N A B C) := by unfold May; infer_instance
def Tm.may (n : Nat) (t : Tm) : Bool := decide (May n t.K t.S t.N t.A t.B t.C)

/-- What Put answers, and the terms that are there then. -/
def putF (L : List Tm) (most : Int) (t : Tm) : Int × Int × List Tm :=
  if t.may L.length = true then (if nameOf L t ≠ 0 then (nameOf L t, 0, L) else if most ≤ (L.length : Int) then (0, 4, L) else ((L.length : Int) + 1, 0, L ++ [t])) else (0, 1, L)
theorem putF_of {L : List Tm} {most : Int} {t : Tm} {name err : Int} {L' : List Tm} (h : PutIs L most t name err L') : putF L most t = (name, err, L') := by
  unfold putF Tm.may
  rcases h with ⟨h1, e1, e2, e3⟩ | ⟨h1, k, hk, ht, hj, e1, e2, e3⟩ | ⟨h1, hj, hm, e1, e2, e3⟩ | ⟨h1, hj, hm, e1, e2, e3⟩
  all_goals rw [e1, e2, e3]
  · rw [if_neg (by simpa using h1)]
  · rw [if_pos (by simpa using h1), nameOf_of L t k hk ht hj, if_pos (by omega)]
  · rw [if_pos (by simpa using h1), nameOf_zero L t hj, if_neg (by simp), if_pos hm]
  · rw [if_pos (by simpa using h1), nameOf_zero L t hj, if_neg (by simp), if_neg (by omega)]

theorem below3 {P : Nat → Prop} : (∀ j, j < 3 → P j) ↔ P 0 ∧ P 1 ∧ P 2 := by
  constructor
  · intro h; exact ⟨h 0 (by omega), h 1 (by omega), h 2 (by omega)⟩
  · rintro ⟨h0, h1, h2⟩ j hj
    rcases (by omega : j = 0 ∨ j = 1 ∨ j = 2) with rfl | rfl | rfl <;> assumption
theorem below2 {P : Nat → Prop} : (∀ j, j < 2 → P j) ↔ P 0 ∧ P 1 := by
  constructor
  · intro h; exact ⟨h 0 (by omega), h 1 (by omega)⟩
  · rintro ⟨h0, h1⟩ j hj
    rcases (by omega : j = 0 ∨ j = 1) with rfl | rfl <;> assumption
theorem below1 {P : Nat → Prop} : (∀ j, j < 1 → P j) ↔ P 0 := by
  constructor
  · intro h; exact h 0 (by omega)
  · rintro h0 j hj
    obtain rfl : j = 0 := by omega
    assumption
theorem empty_iff (S : ByteArray) : S.toList = [] ↔ S = ⟨#[]⟩ := by
  rw [ByteArray.toList_eq]
  constructor
  · intro h; apply ByteArray.ext; apply Array.ext'; exact h
  · rintro rfl; rfl
theorem mayP_iff (n : Nat) (t : Tm) : MayP n t ↔ May n t.K t.S t.N t.A t.B t.C := by
  obtain ⟨K, S, N, A, B, C⟩ := t
  unfold MayP May
  rw [below3]
  simp only [empty_iff]
  by_cases h : 1 ≤ K ∧ K ≤ 11
  · have : K = 1 ∨ K = 2 ∨ K = 3 ∨ K = 4 ∨ K = 5 ∨ K = 6 ∨ K = 7 ∨ K = 8 ∨ K = 9 ∨ K = 10 ∨ K = 11 := by omega
    rcases this with rfl | rfl | rfl | rfl | rfl | rfl | rfl | rfl | rfl | rfl | rfl
    all_goals
      simp [many, bareT, partAt, prt, BadP, below3, below2, eq_comm (a := (0 : Int)), eq_comm (a := (⟨#[]⟩ : ByteArray))]
      try simp only [and_assoc, and_comm, and_left_comm]
  · constructor
    · intro h'; exact absurd ⟨h'.1, h'.2.1⟩ h
    · intro h'; exact absurd ⟨h'.1, h'.2.1⟩ h
end Go.Proofs.Ytlnpfeecaiecaaa
