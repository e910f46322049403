/- Names in a store, in one word: what Put answers where there is room, and that names stay, tell terms apart, and are got again. -/
import Derived.Test.YtlnpfeecaiecaaaStores
namespace Go.Proofs.Ytlnpfeecaiecaaa
open Go.RowKit
set_option linter.unusedVariables false
set_option maxRecDepth 20000

/-- A term has that name there. -/
def Named (L : List Tm) (a : Int) (t : Tm) : Prop := nameOf L t = a ∧ 1 ≤ a
/-- The later terms: what had a name keeps it. -/
def Ext (L L' : List Tm) : Prop := L.length ≤ L'.length ∧ (∀ j, j < L.length → L'.getD j zeroT = L.getD j zeroT) ∧ ∀ u, nameOf L u ≠ 0 → nameOf L' u = nameOf L u
theorem Ext.refl (L : List Tm) : Ext L L := ⟨Nat.le_refl _, fun _ _ => rfl, fun _ _ => rfl⟩
theorem Ext.trans {L M N : List Tm} (h : Ext L M) (k : Ext M N) : Ext L N :=
  ⟨Nat.le_trans h.1 k.1, fun j hj => by rw [k.2.1 j (Nat.lt_of_lt_of_le hj h.1), h.2.1 j hj], fun u hu => by
    have := h.2.2 u hu
    rw [k.2.2 u (by rw [this]; exact hu), this]⟩
theorem Ext.snoc (L : List Tm) (t : Tm) : Ext L (L ++ [t]) := ⟨by simp, fun j hj => getD_snoc_lt L t j hj, fun u hu => nameOf_snoc_old L t u hu⟩
theorem Named.ext {L L' : List Tm} {a : Int} {t : Tm} (h : Named L a t) (k : Ext L L') : Named L' a t := ⟨by rw [k.2.2 t (by rw [h.1]; have := h.2; omega)]; exact h.1, h.2⟩
theorem Named.at {L : List Tm} {a : Int} {t : Tm} (h : Named L a t) : 1 ≤ a ∧ a ≤ (L.length : Int) ∧ L.getD (a - 1).toNat zeroT = t := by
  obtain ⟨h1, h2⟩ := h
  rcases nameOf_cases L t with ⟨h0, _⟩ | ⟨k, hk, e, ht, _⟩
  · omega
  · have : (a - 1).toNat = k := by omega
    rw [this]
    exact ⟨h2, by omega, ht⟩
theorem Named.inj {L : List Tm} {a b : Int} {t u : Tm} (h : Named L a t) (k : Named L b u) : a = b ↔ t = u := by
  constructor
  · rintro rfl
    rw [← h.at.2.2, ← k.at.2.2]
  · rintro rfl
    rw [← h.1, ← k.1]
theorem Named.get {L : List Tm} {a : Int} {t : Tm} (h : Named L a t) : getT L a = (t, true) := by
  obtain ⟨h1, h2, h3⟩ := h.at
  unfold getT
  rw [if_pos ⟨h1, h2⟩, h3]
theorem put_old {L : List Tm} {a most : Int} {t : Tm} (h : Named L a t) (hm : t.may L.length = true) : putF L most t = (a, 0, L) := by
  unfold putF
  rw [if_pos hm, if_pos (by rw [h.1]; have := h.2; omega), h.1]
theorem put_named (L : List Tm) (most : Int) (t : Tm) (hm : t.may L.length = true) (hr : (L.length : Int) < most) :
    ∃ a L', putF L most t = (a, 0, L') ∧ Named L' a t ∧ Ext L L' ∧ L'.length ≤ L.length + 1 := by
  rcases nameOf_cases L t with ⟨h0, h⟩ | ⟨k, hk, h1, h2, h3⟩
  · refine ⟨(L.length : Int) + 1, L ++ [t], ?_, ⟨nameOf_snoc_same L t h0, by omega⟩, Ext.snoc L t, by simp⟩
    unfold putF
    rw [if_pos hm, if_neg (by rw [h0]; simp), if_neg (by omega)]
  · exact ⟨(k : Int) + 1, L, put_old ⟨h1, by omega⟩ hm, ⟨h1, by omega⟩, Ext.refl L, by omega⟩
/-- Where there is no room. -/
theorem put_full {L : List Tm} {most : Int} {t : Tm} (hm : t.may L.length = true) (h0 : nameOf L t = 0) (hr : most ≤ (L.length : Int)) : putF L most t = (0, 4, L) := by
  unfold putF
  rw [if_pos hm, if_neg (by rw [h0]; simp), if_pos hr]
theorem put_bad {L : List Tm} {most : Int} {t : Tm} (hm : t.may L.length = false) : putF L most t = (0, 1, L) := by
  unfold putF
  rw [if_neg (by rw [hm]; simp)]
end Go.Proofs.Ytlnpfeecaiecaaa
