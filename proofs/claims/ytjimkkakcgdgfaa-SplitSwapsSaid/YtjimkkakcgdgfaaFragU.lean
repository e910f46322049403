/- Words for SplitTells: arrays that came in; parts with a text of at most 1100 bytes; how many parts a cut makes. -/
import Derived.Test.YtjimkkakcgdgfaaFragV
namespace Go.Proofs.Ytjimkkakcgdgfaa
open Go.RowKit
open Go.ChangeShapes Go.WideShapes
set_option linter.unusedVariables false
set_option linter.unusedSimpArgs false
set_option maxRecDepth 20000
theorem open_arr {H : Type} {enc : TypeId × Value → H} {P : Program} {w : World} {base : Nat} {sp : Nat → Bool} {held : Bool} {fuel : Nat} {t e : TypeId} {k : IntKind} {n : Nat} {cs : List Value} {x : DataW H × List MemPlace}
    (ht : P.underlying t = some (.array n e)) (he : P.underlying e = some (.int k)) (hce : P.cellsOf e = 1) (hct : P.cellsOf t = n) (h : DataW.trod enc P w base sp held fuel t cs = some x) :
    ∃ Z : Nat → Int, cs.length = n ∧ ∀ j, j < n → cs[j]? = some (.int k (Z j)) ∧ (Lit.int k (Z j)).wf = true := by
  obtain ⟨xs, m, _, _, hl, hlen, hf⟩ := DataW.trod_array ht h
  rw [hct] at hl
  have hall : ∀ j, j < n → ∃ z : Int, cs[j]? = some (.int k z) ∧ (Lit.int k z).wf = true := by
    intro j hj
    have g := hf j hj
    rw [hce, Nat.mul_one, List.getElem?_eq_getElem (by omega : j < xs.length)] at g
    have hd : (cs.drop j).take 1 = [cs[j]] := by
      rw [List.drop_eq_getElem_cons (by omega)]; rfl
    rw [hd] at g
    obtain ⟨z, e1, _, y⟩ := DataW.trod_int he g
    simp at e1
    exact ⟨z, by rw [List.getElem?_eq_getElem (by omega), e1], y⟩
  obtain ⟨Z, hZ⟩ := Go.Deep.choose_lt hall
  exact ⟨Z, hl, hZ⟩

theorem open_arrV {H : Type} {enc : TypeId × Value → H} {P : Program} {w : World} {base : Nat} {sp : Nat → Bool} {held : Bool} {fuel : Nat} {t e : TypeId} {k : IntKind} {n : Nat} {cs : Array Value} {x : DataW H × List MemPlace}
    (ht : P.underlying t = some (.array n e)) (he : P.underlying e = some (.int k)) (hce : P.cellsOf e = 1) (hct : P.cellsOf t = n) (h : DataW.trod enc P w base sp held fuel t cs.toList = some x) :
    ∃ Z : Nat → Int, cs = ((List.range n).map fun j => Value.int k (Z j)).toArray ∧ ∀ j, j < n → (Lit.int k (Z j)).wf = true := by
  obtain ⟨Z, hl, hZ⟩ := open_arr ht he hce hct h
  refine ⟨Z, ?_, fun j hj => (hZ j hj).2⟩
  obtain ⟨l⟩ := cs
  simp only at hl hZ
  congr 1
  apply List.ext_getElem?
  intro j
  rcases Nat.lt_or_ge j n with q | q
  · rw [(hZ j q).1]; simp [q]
  · rw [List.getElem?_eq_none (by rw [hl]; exact q), List.getElem?_eq_none (by simp; exact q)]


def capF (f : Fr) : Fr := ⟨f.id, f.ix, f.ct, f.s.extract 0 (min f.s.size 1100)⟩
theorem cap_size (f : Fr) : (capF f).s.size ≤ 1100 := by simp only [capF, ByteArray.size_extract]; omega
theorem cap_facts (s : ByteArray) : min (s.size : Int) 1100 = (s.extract 0 (min s.size 1100)).size ∧ (s.extract 0 (min s.size 1100)).size ≤ s.size ∧ s.extract 0 (s.extract 0 (min s.size 1100)).size = s.extract 0 (min s.size 1100) := by
  have e : (s.extract 0 (min s.size 1100)).size = min s.size 1100 := by simp only [ByteArray.size_extract]; omega
  rw [e]
  refine ⟨by omega, by omega, rfl⟩
theorem cut_len (s : ByteArray) (id sz : Int) : (cutF s id sz).1.length ≤ 16 := by
  unfold cutF
  split
  · exact Nat.zero_le _
  · split
    · exact Nat.zero_le _
    · show (parts _ _ _ _).length ≤ 16
      unfold parts
      rw [List.length_map, List.length_range]
      omega
theorem rcut_l (s : ByteArray) (id sz : Int) (w : World) (hs : s.size ≤ maxLen) (fs : List Fr) (E : Nat) (h : cutF s id sz = (fs, E)) :
    Calls Try.prog 11 #[.string s, .int .u64 id, .int .i64 sz] w fun e w' => ∃ v, e = .returned (.tuple #[v, .int .i64 E]) ∧ OwnF 43 w.heap.size v fs w' ∧ Below w.heap.size w w' := by
  have := rcut_f s id sz w hs
  rw [h] at this
  exact this
end Go.Proofs.Ytjimkkakcgdgfaa
