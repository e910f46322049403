/- What public keys and shared secrets are named, where there is room. -/
import Derived.Test.YtlnpfeecaiecaaaNamed
import Derived.Test.YtlnpfeecaiecaaaDhC
namespace Go.Proofs.Ytlnpfeecaiecaaa
open Go.RowKit
set_option linter.unusedVariables false

theorem may_pub {n : Nat} {x : Int} (h1 : 1 ≤ x) (h2 : x ≤ (n : Int)) : (pubT x).may n = true := by
  rw [may_iff]
  simp [May, below3, BadP, many, prt, pubT, sz0]
  omega
theorem may_sh {n : Nat} {x y : Int} (h1 : 1 ≤ x) (h2 : x ≤ y) (h3 : y ≤ (n : Int)) : (shareT x y).may n = true := by
  rw [may_iff]
  simp [May, below3, BadP, many, prt, shareT, sz0]
  omega
def sh (x y : Int) : Tm := shareT (if x ≤ y then x else y) (if x ≤ y then y else x)
theorem sh_comm (x y : Int) : sh x y = sh y x := by unfold sh shareT; congr 1 <;> split <;> split <;> omega
theorem sh_inj {x y z : Int} : sh x y = sh x z ↔ y = z := by
  constructor
  · intro h
    unfold sh shareT at h
    injection h with _ _ _ h1 h2 _
    revert h1 h2
    split <;> split <;> omega
  · rintro rfl; rfl
theorem sh_ne_pub (x y z : Int) : sh x y ≠ pubT z := by
  intro h
  unfold sh shareT pubT at h
  injection h with h1
  omega
theorem pub_inj {x y : Int} : pubT x = pubT y ↔ x = y := by
  constructor
  · intro h
    unfold pubT at h
    injection h
  · rintro rfl; rfl
theorem may_shS {n : Nat} {x y : Int} (hx1 : 1 ≤ x) (hx2 : x ≤ (n : Int)) (hy1 : 1 ≤ y) (hy2 : y ≤ (n : Int)) : (sh x y).may n = true := by
  unfold sh
  split
  · exact may_sh hx1 (by omega) hy2
  · exact may_sh hy1 (by omega) hx2
theorem Named.sec {L : List Tm} {p x : Int} (h : Named L p (pubT x)) : secF L p = (x, true) := by
  unfold secF
  rw [h.get]
  rfl
theorem Named.noSec {L : List Tm} {p : Int} {t : Tm} (h : Named L p t) (ht : t.K ≠ 3) : secF L p = (0, false) := by
  unfold secF
  rw [h.get, if_neg]
  rintro ⟨_, h2⟩
  exact ht h2
theorem agree_is {L : List Tm} {most x y p : Int} (h : Named L p (pubT y)) : agreeF L most x p = putF L most (sh x y) := by
  unfold agreeF
  rw [h.sec]
  rfl
theorem pub_step (L : List Tm) (most x : Int) (h1 : 1 ≤ x) (h2 : x ≤ (L.length : Int)) (hr : (L.length : Int) < most) :
    ∃ p L', putF L most (pubT x) = (p, 0, L') ∧ Named L' p (pubT x) ∧ Ext L L' ∧ L'.length ≤ L.length + 1 :=
  put_named L most _ (may_pub h1 h2) hr
theorem agree_step {L : List Tm} {x y q : Int} (most : Int) (h : Named L q (pubT y)) (hx1 : 1 ≤ x) (hx2 : x ≤ (L.length : Int)) (hy1 : 1 ≤ y) (hy2 : y ≤ (L.length : Int)) (hr : (L.length : Int) < most) :
    ∃ a L', agreeF L most x q = (a, 0, L') ∧ Named L' a (sh x y) ∧ Ext L L' ∧ L'.length ≤ L.length + 1 := by
  rw [agree_is h]
  exact put_named L most _ (may_shS hx1 hx2 hy1 hy2) hr
theorem agree_old {L : List Tm} {x y q a : Int} (most : Int) (h : Named L q (pubT y)) (hn : Named L a (sh x y)) (hx1 : 1 ≤ x) (hx2 : x ≤ (L.length : Int)) (hy1 : 1 ≤ y) (hy2 : y ≤ (L.length : Int)) : agreeF L most x q = (a, 0, L) := by
  rw [agree_is h]
  exact put_old hn (may_shS hx1 hx2 hy1 hy2)
end Go.Proofs.Ytlnpfeecaiecaaa
