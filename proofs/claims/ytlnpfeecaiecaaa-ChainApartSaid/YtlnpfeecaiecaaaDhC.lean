/- The program's and the document's public keys and shared secrets, as functions of a store's terms: contracts of all their calls. -/
import Derived.Test.YtlnpfeecaiecaaaWords
namespace Go.Proofs.Ytlnpfeecaiecaaa
open Go.RowKit
set_option linter.unusedVariables false

def pubT (x : Int) : Tm := ⟨3, ⟨#[]⟩, 0, x, 0, 0⟩
def shareT (x y : Int) : Tm := ⟨4, ⟨#[]⟩, 0, x, y, 0⟩
theorem pub_wf {x : Int} (h : I64 x) : Wf (pubT x) := ⟨wf_emp, k3, u0, h, k0, k0⟩
theorem share_wf {x y : Int} (h : I64 x) (k : I64 y) : Wf (shareT x y) := ⟨wf_emp, k4, u0, h, k, k0⟩

/-- The secret of which a name is the public key. -/
def secF (L : List Tm) (p : Int) : Int × Bool := if (getT L p).2 = true ∧ (getT L p).1.K = 3 then ((getT L p).1.A, true) else (0, false)
/-- What both share, and the terms that are there then. -/
def agreeF (L : List Tm) (most : Int) (x p : Int) : Int × Int × List Tm :=
  if (secF L p).2 = true then putF L most (shareT (if x ≤ (secF L p).1 then x else (secF L p).1) (if x ≤ (secF L p).1 then (secF L p).1 else x)) else (0, 1, L)

theorem sec_in {L : List Tm} {p a : Int} (hf : Fit L) (h : secF L p = (a, true)) : 1 ≤ p ∧ p ≤ (L.length : Int) ∧ 1 ≤ a ∧ a < p := by
  unfold secF at h
  split at h
  · rename_i hp
    obtain ⟨t, ht⟩ : ∃ t, t = (getT L p).1 := ⟨_, rfl⟩
    have h2 : getT L p = (t, true) := by rw [ht, ← hp.1]
    obtain ⟨q1, q2, q3⟩ := getT_in h2
    have h3 := hf (p - 1).toNat (by omega) 0 (by rw [← q3, ht, hp.2]; decide)
    rw [← q3] at h3
    simp [prt] at h3
    injection h with h4 h5
    rw [h2] at h4
    simp only at h4
    omega
  · injection h with h1 h2; cases h2

section
variable {base g : Nat} {most : Int} {Q2 : (Nat → Prop) → List Tm → World → Prop} {L L2 : List Tm} {K : Nat → Prop} {w0 w : World}








theorem may_share {n : Nat} {x y : Int} (h : (shareT x y).may n = true) : 1 ≤ x ∧ x ≤ y ∧ y ≤ (n : Int) := by
  have h1 := (mayP_iff n (shareT x y)).2 (by simpa [Tm.may] using h)
  obtain ⟨_, _, _, _, h2, h3⟩ := h1
  have a := h3 0 (by simp [shareT, many])
  have b := h3 1 (by simp [shareT, many])
  simp [partAt, shareT] at a b h2
  omega
theorem agree_out {L : List Tm} {most x p : Int} (h : x < 1 ∨ (L.length : Int) < x) : agreeF L most x p = (0, 1, L) := by
  unfold agreeF
  split
  · unfold putF
    rw [if_neg]
    intro hm
    have := may_share hm
    revert this
    split <;> omega
  · rfl

end
end Go.Proofs.Ytlnpfeecaiecaaa
