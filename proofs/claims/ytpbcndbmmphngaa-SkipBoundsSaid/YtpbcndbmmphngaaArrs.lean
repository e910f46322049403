/- Arrays of integers, and rows of such, that came in: opened at every index. -/
import Derived.Test.YtpbcndbmmphngaaRowB
import Derived.Deep.Slices
import Derived.OpenShut
namespace Go.Proofs.Ytpbcndbmmphngaa
open Go.RowKit
open Go.ChangeShapes Go.WideShapes
set_option linter.unusedVariables false
set_option maxRecDepth 20000

theorem open_arr {H : Type} {enc : TypeId × Value → H} {P : Program} {w : World} {base : Nat} {sp : Nat → Bool} {held : Bool} {fuel : Nat} {t e : TypeId} {k : IntKind} {n : Nat} {cs : List Value} {x : DataW H × List MemPlace}
    (ht : P.underlying t = some (.array n e)) (he : P.underlying e = some (.int k)) (hce : P.cellsOf e = 1) (hct : P.cellsOf t = n) (h : DataW.trod enc P w base sp held fuel t cs = some x) :
    ∃ Z : Nat → Int, cs.length = n ∧ ∀ j, j < n → cs[j]? = some (.int k (Z j)) ∧ (Lit.int k (Z j)).wf = true := by
  obtain ⟨xs, m, _, _, hl, hlen, hf⟩ := DataW.trod_array ht h
  rw [hct] at hl
  have hall : ∀ j, j < n → ∃ z : Int, cs[j]? = some (.int k z) ∧ (Lit.int k z).wf = true := by
    intro j hj
    have g := hf j hj
    rw [hce, Nat.mul_one, List.getElem?_eq_getElem (by omega : j < xs.length)] at g
    have hd : (cs.drop j).take 1 = [cs[j]] := by
      rw [List.drop_eq_getElem_cons (by omega)]; rfl
    rw [hd] at g
    obtain ⟨z, e1, _, y⟩ := DataW.trod_int he g
    simp at e1
    exact ⟨z, by rw [List.getElem?_eq_getElem (by omega), e1], y⟩
  obtain ⟨Z, hZ⟩ := Go.Deep.choose_lt hall
  exact ⟨Z, hl, hZ⟩

theorem open_arrV {H : Type} {enc : TypeId × Value → H} {P : Program} {w : World} {base : Nat} {sp : Nat → Bool} {held : Bool} {fuel : Nat} {t e : TypeId} {k : IntKind} {n : Nat} {cs : Array Value} {x : DataW H × List MemPlace}
    (ht : P.underlying t = some (.array n e)) (he : P.underlying e = some (.int k)) (hce : P.cellsOf e = 1) (hct : P.cellsOf t = n) (h : DataW.trod enc P w base sp held fuel t cs.toList = some x) :
    ∃ Z : Nat → Int, cs = ((List.range n).map fun j => Value.int k (Z j)).toArray ∧ ∀ j, j < n → (Lit.int k (Z j)).wf = true := by
  obtain ⟨Z, hl, hZ⟩ := open_arr ht he hce hct h
  refine ⟨Z, ?_, fun j hj => (hZ j hj).2⟩
  obtain ⟨l⟩ := cs
  simp only at hl hZ
  congr 1
  apply List.ext_getElem?
  intro j
  rcases Nat.lt_or_ge j n with q | q
  · rw [(hZ j q).1]; simp [q]
  · rw [List.getElem?_eq_none (by rw [hl]; exact q), List.getElem?_eq_none (by simp; exact q)]

/-- A row of arrays of n integers that came in, or nil. -/
def Arrs (k : IntKind) (n : Nat) (w : World) (a : Option Addr) (len cap : Nat) (Z : Nat → Nat → Int) : Prop :=
  cap ≤ maxLen ∧ len ≤ cap ∧ ∃ b off, ∀ i, i < len → a = some ⟨b, off, none⟩ ∧ ∀ j, j < n → w.cell? ⟨b, off + i * n + j, none⟩ = some (.int k (Z i j)) ∧ (Lit.int k (Z i j)).wf = true

theorem open_arrs {H : Type} {enc : TypeId × Value → H} {P : Program} {w : World} {base : Nat} {sp : Nat → Bool} {held : Bool} {fuel : Nat} {s t e : TypeId} {k : IntKind} {n : Nat} {a : Option Addr} {len cap : Nat} {x : DataW H × List MemPlace}
    (hs : P.underlying s = some (.slice t)) (ht : P.underlying t = some (.array n e)) (he : P.underlying e = some (.int k)) (hce : P.cellsOf e = 1) (hct : P.cellsOf t = n) (hn : 0 < n)
    (h : DataW.trod enc P w base sp held fuel s [.slice a len cap] = some x) : ∃ Z, Arrs k n w a len cap Z := by
  rcases Go.Deep.open_slice hs h with ⟨hcs, _⟩ | ⟨a', l, c, m, n', D, Pl, hcs, _, hl, hm, hmm, _, hx⟩
  · simp at hcs
    obtain ⟨rfl, rfl, rfl⟩ := hcs
    exact ⟨fun _ _ => 0, Nat.zero_le _, Nat.le_refl _, 0, 0, fun i hi => absurd hi (Nat.not_lt_zero _)⟩
  · simp at hcs
    obtain ⟨rfl, rfl, rfl⟩ := hcs
    have hlm : len ≤ m := by rw [hmm]; split <;> omega
    rw [hct] at hx
    have hall : ∀ i, i < len → ∃ Z : Nat → Int, ∀ j, j < n → w.cell? (a'.add (i * n + j)) = some (.int k (Z j)) ∧ (Lit.int k (Z j)).wf = true := by
      intro i hi
      obtain ⟨cs', h1, h2⟩ := hx i (by omega)
      obtain ⟨Z, hl, hZ⟩ := open_arr ht he hce hct h2
      obtain ⟨_, _, h3⟩ := World.cells?_some h1
      refine ⟨Z, fun j hj => ?_⟩
      obtain ⟨q1, q2⟩ := hZ j hj
      have := h3 j (by omega)
      rw [Go.Deep.add_add] at this
      exact ⟨by rw [this]; exact q1, q2⟩
    obtain ⟨Z, hZ⟩ := Go.Deep.choose_lt hall
    obtain ⟨b, off, spot⟩ := a'
    refine ⟨Z, hm, hl, b, off, fun i hi => ?_⟩
    have hc0 := (hZ 0 (by omega) 0 hn).1
    have hspot : spot = none := by simpa [Addr.add] using World.cell?_spot hc0
    subst hspot
    refine ⟨rfl, fun j hj => ?_⟩
    obtain ⟨hc, hw⟩ := hZ i hi j hj
    have hadd : ∀ i, (⟨b, off, none⟩ : Addr).add i = ⟨b, off + i, none⟩ := by
      intro i
      unfold Addr.add
      split
      · rename_i h; subst h; rfl
      · rfl
    rw [hadd, ← Nat.add_assoc] at hc
    exact ⟨hc, hw⟩
end Go.Proofs.Ytpbcndbmmphngaa
