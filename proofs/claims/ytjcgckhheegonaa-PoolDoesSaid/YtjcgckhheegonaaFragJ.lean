/- Parts joined: what the message of parts is. No program is named here. -/
import Derived.Test.YtjcgckhheegonaaFragM
namespace Go.Proofs.Ytjcgckhheegonaa
set_option linter.unusedVariables false
set_option linter.unusedSimpArgs false

def okAt (id : Int) (n i : Nat) (f : Fr) : Bool := rightF f && (f.id == id && (f.ct == (n : Int) && f.ix == (i : Int)))
def okFrom (id : Int) (n : Nat) : Nat → List Fr → Bool
  | _, [] => true
  | i, f :: r => okAt id n i f && okFrom id n (i + 1) r
def catF : List Fr → ByteArray → ByteArray
  | [], s => s
  | f :: r, s => catF r (s ++ f.s)
def joinF (l : List Fr) : ByteArray × Nat :=
  if l.length = 0 ∨ 16 < l.length ∨ okFrom (l.getD 0 zeroF).id l.length 0 l = false then (⟨#[]⟩, 3)
  else if 4096 < (catF l ⟨#[]⟩).size then (⟨#[]⟩, 4) else (catF l ⟨#[]⟩, 0)
theorem okFrom_iff (id : Int) (n : Nat) (l : List Fr) : ∀ i, okFrom id n i l = true ↔ ∀ j, j < l.length → okAt id n (i + j) (l.getD j zeroF) = true := by
  induction l with
  | nil => intro i; simp [okFrom]
  | cons f r ih =>
    intro i
    rw [okFrom, Bool.and_eq_true, ih]
    constructor
    · rintro ⟨h1, h2⟩ j hj
      cases j with
      | zero => exact h1
      | succ j =>
        have := h2 j (by simpa using hj)
        rw [show i + 1 + j = i + (j + 1) by omega] at this
        exact this
    · intro h
      refine ⟨h 0 (by simp), fun j hj => ?_⟩
      have := h (j + 1) (by simpa using hj)
      rw [show i + (j + 1) = i + 1 + j by omega] at this
      exact this
theorem catF_app (L : List Fr) (f : Fr) : ∀ s, catF (L ++ [f]) s = catF L s ++ f.s := by
  induction L with
  | nil => intro s; rfl
  | cons g r ih => intro s; rw [List.cons_append, catF, catF, ih]
theorem join_bad {fs : List Fr} {k : Nat} (hk : k < fs.length) (h : okAt (fs.getD 0 zeroF).id fs.length k (fs.getD k zeroF) = false) : joinF fs = (⟨#[]⟩, 3) := by
  unfold joinF
  rw [if_pos]
  refine .inr (.inr ?_)
  cases hq : okFrom (fs.getD 0 zeroF).id fs.length 0 fs with
  | false => rfl
  | true =>
    have := (okFrom_iff _ _ _ _).1 hq k hk
    rw [Nat.zero_add, h] at this
    cases this
theorem join_many {fs : List Fr} (h : fs.length = 0 ∨ 16 < fs.length) : joinF fs = (⟨#[]⟩, 3) := by
  unfold joinF
  rw [if_pos]
  rcases h with h | h
  · exact .inl h
  · exact .inr (.inl h)
theorem join_all {fs : List Fr} (h1 : fs.length ≠ 0) (h2 : fs.length ≤ 16) (h : ∀ j, j < fs.length → okAt (fs.getD 0 zeroF).id fs.length j (fs.getD j zeroF) = true) : joinF fs = if 4096 < (catF fs ⟨#[]⟩).size then (⟨#[]⟩, 4) else (catF fs ⟨#[]⟩, 0) := by
  unfold joinF
  rw [if_neg]
  rintro (q | q | q)
  · exact h1 q
  · omega
  · rw [(okFrom_iff _ _ _ _).2 (fun j hj => by rw [Nat.zero_add]; exact h j hj)] at q
    cases q
theorem okAt_iff {id : Int} {n i : Nat} {f : Fr} : okAt id n i f = true ↔ rightF f = true ∧ f.id = id ∧ f.ct = n ∧ f.ix = i := by
  simp only [okAt, Bool.and_eq_true, beq_iff_eq]
end Go.Proofs.Ytjcgckhheegonaa
