/- A row of terms that came in, opened at every index; a term cut to a text of 1100 bytes. -/
import Derived.Test.YtlnpfeecaiecaaaWalksS
import Derived.Test.YtlnpfeecaiecaaaFixed
import Derived.Deep.Slices
import Derived.ChangeArms
namespace Go.Proofs.Ytlnpfeecaiecaaa
open Go.RowKit
open Go.ChangeShapes Go.WideShapes
set_option linter.unusedVariables false
set_option maxRecDepth 20000

theorem cells22 : Try.prog.cellsOf 59 = 6 := by kernel_rfl

theorem open_term {H : Type} {enc : TypeId × Value → H} {w : World} {base : Nat} {sp : Nat → Bool} {held : Bool} {fuel : Nat} {cs : List Value} {x : DataW H × List MemPlace} (h : DataW.trod enc Try.prog w base sp held fuel 59 cs = some x) :
    ∃ t : Tm, cs = t.cl ∧ Wf t := by
  obtain ⟨xs, n, _, rfl, hl, hlen, hf⟩ := DataW.trod_struct Try.underlying59 h
  rw [cells22] at hl
  match cs, hl with
  | [v0, v1, v2, v3, v4, v5], _ =>
    match xs, hlen with
    | [y0, y1, y2, y3, y4, y5], _ =>
      have f0 : DataW.trod enc Try.prog w base sp held n 3 ((([v0, v1, v2, v3, v4, v5] : List Value).drop 0).take (Try.prog.cellsOf 3)) = some y0 := hf 0 _ rfl
      have f1 : DataW.trod enc Try.prog w base sp held n 9 ((([v0, v1, v2, v3, v4, v5] : List Value).drop 1).take (Try.prog.cellsOf 9)) = some y1 := hf 1 _ rfl
      have f2 : DataW.trod enc Try.prog w base sp held n 57 ((([v0, v1, v2, v3, v4, v5] : List Value).drop 2).take (Try.prog.cellsOf 57)) = some y2 := hf 2 _ rfl
      have f3 : DataW.trod enc Try.prog w base sp held n 3 ((([v0, v1, v2, v3, v4, v5] : List Value).drop 3).take (Try.prog.cellsOf 3)) = some y3 := hf 3 _ rfl
      have f4 : DataW.trod enc Try.prog w base sp held n 3 ((([v0, v1, v2, v3, v4, v5] : List Value).drop 4).take (Try.prog.cellsOf 3)) = some y4 := hf 4 _ rfl
      have f5 : DataW.trod enc Try.prog w base sp held n 3 ((([v0, v1, v2, v3, v4, v5] : List Value).drop 5).take (Try.prog.cellsOf 3)) = some y5 := hf 5 _ rfl
      rw [cells3] at f0 f3 f4 f5
      rw [cells9] at f1
      rw [cells30] at f2
      simp at f0 f1 f2 f3 f4 f5
      obtain ⟨K, e0, _, w0⟩ := DataW.trod_int Try.underlying3 f0
      obtain ⟨S, e1, _, w1⟩ := DataW.trod_string Try.underlying9 f1
      obtain ⟨N, e2, _, w2⟩ := DataW.trod_int Try.underlying57 f2
      obtain ⟨A, e3, _, w3⟩ := DataW.trod_int Try.underlying3 f3
      obtain ⟨B, e4, _, w4⟩ := DataW.trod_int Try.underlying3 f4
      obtain ⟨C, e5, _, w5⟩ := DataW.trod_int Try.underlying3 f5
      simp at e0 e1 e2 e3 e4 e5
      exact ⟨⟨K, S, N, A, B, C⟩, by simp [Tm.cl, e0, e1, e2, e3, e4, e5], w1, w0, w2, w3, w4, w5⟩

/-- A row of terms that came in, or nil. -/
def Terms (w : World) (a : Option Addr) (len cap : Nat) (T : Nat → Tm) : Prop :=
  cap ≤ maxLen ∧ len ≤ cap ∧ ∃ b off, ∀ i, i < len → a = some ⟨b, off, none⟩ ∧ Wf (T i) ∧ ∀ j u, (T i).cl[j]? = some u → w.cell? ⟨b, off + i * 6 + j, none⟩ = some u

theorem open_terms {H : Type} {enc : TypeId × Value → H} {w : World} {base : Nat} {sp : Nat → Bool} {held : Bool} {fuel : Nat} {a : Option Addr} {len cap : Nat} {x : DataW H × List MemPlace}
    (h : DataW.trod enc Try.prog w base sp held fuel 22 [.slice a len cap] = some x) : ∃ T, Terms w a len cap T := by
  rcases Go.Deep.open_slice Try.underlying22 h with ⟨hcs, _⟩ | ⟨a', l, c, m, n, D, Pl, hcs, _, hl, hm, hmm, _, hx⟩
  · simp at hcs
    obtain ⟨rfl, rfl, rfl⟩ := hcs
    exact ⟨fun _ => zeroT, Nat.zero_le _, Nat.le_refl _, 0, 0, fun i hi => absurd hi (Nat.not_lt_zero _)⟩
  · simp at hcs
    obtain ⟨rfl, rfl, rfl⟩ := hcs
    have hlm : len ≤ m := by rw [hmm]; split <;> omega
    rw [cells22] at hx
    have hall : ∀ i, i < len → ∃ t : Tm, Wf t ∧ ∀ j u, t.cl[j]? = some u → w.cell? (a'.add (i * 6 + j)) = some u := by
      intro i hi
      obtain ⟨cs', h1, h2⟩ := hx i (by omega)
      obtain ⟨t, rfl, ht⟩ := open_term h2
      obtain ⟨_, _, h3⟩ := World.cells?_some h1
      refine ⟨t, ht, fun j u hj => ?_⟩
      have hj6 : j < 6 := by
        rcases Nat.lt_or_ge j 6 with q | q
        · exact q
        · rw [List.getElem?_eq_none (by simp [Tm.cl]; omega)] at hj; cases hj
      have := h3 j hj6
      rw [Go.Deep.add_add] at this
      rw [this]; exact hj
    have : Inhabited Tm := ⟨zeroT⟩
    obtain ⟨T, hT⟩ := Go.Deep.choose_lt hall
    obtain ⟨b, off, spot⟩ := a'
    refine ⟨T, hm, hl, b, off, fun i hi => ?_⟩
    obtain ⟨hw, hc⟩ := hT i hi
    have hc0 := (hT 0 (by omega)).2 0 _ rfl
    have hspot : spot = none := by simpa [Addr.add] using World.cell?_spot hc0
    subst hspot
    refine ⟨rfl, hw, fun j u hj => ?_⟩
    have := hc j u hj
    have hadd : ∀ i, (⟨b, off, none⟩ : Addr).add i = ⟨b, off + i, none⟩ := by
      intro i
      unfold Addr.add
      split
      · rename_i h; subst h; rfl
      · rfl
    rw [hadd, ← Nat.add_assoc] at this
    exact this

/-- A term with a text of at most 1100 bytes. -/
def cutT (t : Tm) : Tm := ⟨t.K, t.S.extract 0 (min t.S.size 1100), t.N, t.A, t.B, t.C⟩
theorem cutT_size (t : Tm) : (cutT t).S.size = min t.S.size 1100 := by simp [cutT]
theorem cutT_wf {t : Tm} (h : Wf t) : Wf (cutT t) := ⟨by rw [cutT_size]; have := h.1; omega, h.2.1, h.2.2.1, h.2.2.2.1, h.2.2.2.2.1, h.2.2.2.2.2⟩
theorem cut_c (t : Tm) (w : World) (h : Wf t) : Calls Try.prog 25 #[t.v] w fun e w' => e = .returned (cutT t).v ∧ Below w.heap.size w w' := by
  have hs := cutT_size t
  exact cut_any t.K t.S (cutT t).S t.N t.A t.B t.C w (by rw [hs]; omega) (by rw [hs]; omega) (by rw [hs]; omega) (by rw [hs]; rfl) h.1
end Go.Proofs.Ytlnpfeecaiecaaa
