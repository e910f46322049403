/- The document's helpers: whether a name is on a list, and whether a term of some kind and parts can be made. The document's helpers: whether a name is what a term of a list is taken apart to, and whether a term is made at once of those of a list. -/
import Derived.Test.YtlnpfeecaiecaaaKnowM
import Derived.BigRegion
import Derived.Test.YtlnpfeecaiecaaaSameL
namespace Go.Proofs.Ytlnpfeecaiecaaa
open Go.RowKit
set_option linter.unusedVariables false
set_option linter.unusedSimpArgs false
set_option maxRecDepth 20000


/-- Is there on a list a term of that kind and these parts. -/
def isOf (L : List Tm) (x kind a b : Int) : Bool := (tm L x).K == kind && (tm L x).A == a && (tm L x).B == b
def ofB (L : List Tm) (ks : List Int) (kind a b : Int) : Bool := ks.any fun x => isOf L x kind a b
theorem any_take {f : Int → Bool} {ks : List Int} {k : Nat} (h : k < ks.length) : (ks.take (k + 1)).any f = ((ks.take k).any f || f (ks.getD k 0)) := by rw [take_getD h]; simp
theorem any_at {f : Int → Bool} {ks : List Int} {k : Nat} (h : k < ks.length) (hf : f (ks.getD k 0) = true) : ks.any f = true := List.any_eq_true.2 ⟨_, getD_mem h, hf⟩

end Go.Proofs.Ytlnpfeecaiecaaa

namespace Go.Proofs.Ytlnpfeecaiecaaa
open Go.RowKit
set_option linter.unusedVariables false
set_option linter.unusedSimpArgs false
set_option maxRecDepth 20000

def apartB (L : List Tm) (ks : List Int) (n : Int) : Bool := ks.any fun x => openB (has ks) (tm L x) n
/-- Each term there has one name alone. -/
def Uniq (L : List Tm) : Prop := ∀ k, k < L.length → nameOf L (L.getD k zeroT) = (k : Int) + 1
theorem Uniq.nil : Uniq [] := fun k hk => absurd hk (Nat.not_lt_zero _)
theorem Uniq.put {L : List Tm} (h : Uniq L) (most : Int) (t : Tm) : Uniq (putF L most t).2.2 := by
  rcases putF_cases L most t with ⟨hp, hm⟩ | ⟨j, hj, hp, hjt, hm, hn⟩ | ⟨hr, hp, hm, hn⟩ | ⟨hr, hp, hm, hn⟩
  all_goals rw [hp]
  · exact h
  · exact h
  · exact h
  · intro k hk
    have hk' : k < L.length + 1 := by simpa using hk
    show nameOf (L ++ [t]) ((L ++ [t]).getD k zeroT) = (k : Int) + 1
    rcases Nat.lt_succ_iff_lt_or_eq.1 hk' with q | q
    · rw [getD_snoc_lt L t k q, nameOf_snoc_old L t _ (by rw [h k q]; omega), h k q]
    · rw [q, getD_snoc_eq, nameOf_snoc_same L t hn]
theorem Uniq.tm {L : List Tm} (h : Uniq L) {n : Int} (hn : InL L n) : nameOf L (tm L n) = n := by
  have h1 := hn.1
  have h2 := hn.2
  have := h (n - 1).toNat (by omega)
  unfold Go.Proofs.Ytlnpfeecaiecaaa.tm
  rw [this]; omega
theorem nameOf_tm {L : List Tm} {t : Tm} (h : nameOf L t ≠ 0) : InL L (nameOf L t) ∧ tm L (nameOf L t) = t := by
  rcases nameOf_cases L t with ⟨h0, _⟩ | ⟨k, hk, h1, h2, _⟩
  · exact absurd h0 h
  · rw [h1]
    exact ⟨⟨by omega, by omega⟩, by rw [tm_nat, h2]⟩
/-- The fields of a term that its kind has not. -/
theorem bare_tm {L : List Tm} (hS : Sound L) {n : Int} (hn : InL L n) : 1 ≤ (tm L n).K ∧ (tm L n).K ≤ 11 ∧ ((tm L n).K ≠ 1 → (tm L n).S = ⟨#[]⟩) ∧ ((tm L n).K ≠ 2 → (tm L n).K ≠ 9 → (tm L n).K ≠ 10 → (tm L n).N = 0) ∧ (∀ j, j < 3 → many (tm L n).K ≤ j → prt (tm L n).A (tm L n).B (tm L n).C j = 0) ∧ ∀ j, j < many (tm L n).K → InL L (prt (tm L n).A (tm L n).B (tm L n).C j) := by
  have h := hS (n - 1).toNat (by have := hn.1; have := hn.2; omega)
  rw [may_iff] at h
  obtain ⟨h1, h2, h3, h4, h5, h6, h7⟩ := h
  refine ⟨h1, h2, fun k => (empty_iff _).1 (h3 k), h4, fun j hj hm => ?_, fun j hm => ?_⟩
  · have := h6 j hj
    unfold BadP at this
    unfold Go.Proofs.Ytlnpfeecaiecaaa.tm at hm ⊢
    omega
  · have hj : j < 3 := Nat.lt_of_lt_of_le hm (many_le _)
    have := h6 j hj
    unfold BadP at this
    unfold Go.Proofs.Ytlnpfeecaiecaaa.tm at hm ⊢
    unfold InL
    omega
theorem tm_eq {t u : Tm} (h1 : t.K = u.K) (h2 : t.S = u.S) (h3 : t.N = u.N) (h4 : t.A = u.A) (h5 : t.B = u.B) (h6 : t.C = u.C) : t = u := by
  cases t; cases u; simp_all
theorem of_has {L : List Tm} (hU : Uniq L) {ks : List Int} (hin : ∀ n, n ∈ ks → InL L n) {u : Tm} {kind a b : Int} (h1 : ∀ n, InL L n → isOf L n kind a b = true → tm L n = u) (h2 : u.K = kind ∧ u.A = a ∧ u.B = b) : ofB L ks kind a b = hasT L (has ks) u := by
  rw [Bool.eq_iff_iff]
  unfold ofB hasT
  rw [List.any_eq_true, has_iff]
  constructor
  · rintro ⟨x, hx, hi⟩
    have e := h1 x (hin x hx) hi
    rw [← e, hU.tm (hin x hx)]
    exact hx
  · intro h
    have hne : nameOf L u ≠ 0 := fun e => by have := (hin _ h).1; omega
    obtain ⟨_, e⟩ := nameOf_tm hne
    exact ⟨_, h, by unfold isOf; rw [e]; simp [h2.1, h2.2.1, h2.2.2]⟩
theorem isOf_iff {L : List Tm} {x kind a b : Int} : isOf L x kind a b = true ↔ (tm L x).K = kind ∧ (tm L x).A = a ∧ (tm L x).B = b := by
  unfold isOf; simp [and_assoc]
theorem of_pub {L : List Tm} (hS : Sound L) (hU : Uniq L) {ks : List Int} (hin : ∀ n, n ∈ ks → InL L n) (a : Int) : ofB L ks 3 a 0 = hasT L (has ks) (pubT a) := by
  refine of_has hU hin (fun n hn hi => ?_) ⟨rfl, rfl, rfl⟩
  obtain ⟨i1, i2, i3⟩ := isOf_iff.1 hi
  obtain ⟨b1, b2, b3, b4, b5, b6⟩ := bare_tm hS hn
  rw [i1] at b5
  exact tm_eq i1 (b3 (by omega)) (b4 (by omega) (by omega) (by omega)) i2 i3 (b5 2 (by omega) (by decide))
theorem of_kpub {L : List Tm} (hS : Sound L) (hU : Uniq L) {ks : List Int} (hin : ∀ n, n ∈ ks → InL L n) (a : Int) : ofB L ks 5 a 0 = hasT L (has ks) (kpubT a) := by
  refine of_has hU hin (fun n hn hi => ?_) ⟨rfl, rfl, rfl⟩
  obtain ⟨i1, i2, i3⟩ := isOf_iff.1 hi
  obtain ⟨b1, b2, b3, b4, b5, b6⟩ := bare_tm hS hn
  rw [i1] at b5
  exact tm_eq i1 (b3 (by omega)) (b4 (by omega) (by omega) (by omega)) i2 i3 (b5 2 (by omega) (by decide))
theorem of_box {L : List Tm} (hS : Sound L) (hU : Uniq L) {ks : List Int} (hin : ∀ n, n ∈ ks → InL L n) (a b : Int) : ofB L ks 6 a b = hasT L (has ks) (boxT a b) := by
  refine of_has hU hin (fun n hn hi => ?_) ⟨rfl, rfl, rfl⟩
  obtain ⟨i1, i2, i3⟩ := isOf_iff.1 hi
  obtain ⟨b1, b2, b3, b4, b5, b6⟩ := bare_tm hS hn
  rw [i1] at b5
  exact tm_eq i1 (b3 (by omega)) (b4 (by omega) (by omega) (by omega)) i2 i3 (b5 2 (by omega) (by decide))

end Go.Proofs.Ytlnpfeecaiecaaa
