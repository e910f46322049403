/- Rows of windows that came in. -/
import Derived.Test.YtpbcndbmmphngaaEnI
namespace Go.Proofs.Ytpbcndbmmphngaa
open Go.RowKit
open Go.ChangeShapes Go.WideShapes
set_option linter.unusedVariables false
set_option linter.unusedSimpArgs false
set_option maxRecDepth 20000
theorem cellsWin : Try.prog.cellsOf 31 = 2 := by kernel_rfl
theorem cellsU64 : Try.prog.cellsOf 29 = 1 := by kernel_rfl
theorem open_winL {H : Type} {enc : TypeId × Value → H} {w : World} {base : Nat} {sp : Nat → Bool} {held : Bool} {fuel : Nat} {l : List Value} {x : DataW H × List MemPlace} (h : DataW.trod enc Try.prog w base sp held fuel 31 l = some x) :
    ∃ z : Int × Int, l = [.int .u64 z.1, .int .u64 z.2] := by
  obtain ⟨xs, n, _, rfl, hl, hlen, hf⟩ := DataW.trod_struct Try.underlying31 h
  rw [cellsWin] at hl
  match l, hl with
  | [v0, v1], _ =>
    match xs, hlen with
    | [y0, y1], _ =>
      have f0 : DataW.trod enc Try.prog w base sp held n 29 ((([v0, v1] : List Value).drop 0).take (Try.prog.cellsOf 29)) = some y0 := hf 0 _ rfl
      have f1 : DataW.trod enc Try.prog w base sp held n 29 ((([v0, v1] : List Value).drop 1).take (Try.prog.cellsOf 29)) = some y1 := hf 1 _ rfl
      rw [cellsU64] at f0 f1
      simp at f0 f1
      obtain ⟨N, e0, _, w0⟩ := DataW.trod_int Try.underlying29 f0
      obtain ⟨B, e1, _, w1⟩ := DataW.trod_int Try.underlying29 f1
      simp at e0 e1
      exact ⟨(N, B), by rw [e0, e1]⟩
/-- A row of windows that came in, or nil. -/
def Wins (w : World) (a : Option Addr) (len cap : Nat) (Z : Nat → Int × Int) : Prop :=
  cap ≤ maxLen ∧ len ≤ cap ∧ ∃ b off, ∀ i, i < len → a = some ⟨b, off, none⟩ ∧ w.cell? ⟨b, off + i * 2, none⟩ = some (.int .u64 (Z i).1) ∧ w.cell? ⟨b, off + i * 2 + 1, none⟩ = some (.int .u64 (Z i).2)
theorem open_wins {H : Type} {enc : TypeId × Value → H} {w : World} {base : Nat} {sp : Nat → Bool} {held : Bool} {fuel : Nat} {a : Option Addr} {len cap : Nat} {x : DataW H × List MemPlace}
    (h : DataW.trod enc Try.prog w base sp held fuel 23 [.slice a len cap] = some x) : ∃ Z, Wins w a len cap Z := by
  rcases Go.Deep.open_slice Try.underlying23 h with ⟨hcs, _⟩ | ⟨a', l, c, m, n, D, Pl, hcs, _, hl, hm, hmm, _, hx⟩
  · simp at hcs
    obtain ⟨rfl, rfl, rfl⟩ := hcs
    exact ⟨fun _ => (0, 0), Nat.zero_le _, Nat.le_refl _, 0, 0, fun i hi => absurd hi (Nat.not_lt_zero _)⟩
  · simp at hcs
    obtain ⟨rfl, rfl, rfl⟩ := hcs
    have hlm : len ≤ m := by rw [hmm]; split <;> omega
    rw [cellsWin] at hx
    have hall : ∀ i, i < len → ∃ z : Int × Int, w.cell? (a'.add (i * 2)) = some (.int .u64 z.1) ∧ w.cell? (a'.add (i * 2 + 1)) = some (.int .u64 z.2) := by
      intro i hi
      obtain ⟨cs', h1, h2⟩ := hx i (by omega)
      obtain ⟨z, rfl⟩ := open_winL h2
      obtain ⟨_, _, h3⟩ := World.cells?_some h1
      refine ⟨z, ?_, ?_⟩
      · have := h3 0 (by omega)
        rw [Go.Deep.add_add] at this
        exact this
      · have := h3 1 (by omega)
        rw [Go.Deep.add_add] at this
        exact this
    obtain ⟨Z, hZ⟩ := Go.Deep.choose_lt hall
    obtain ⟨b, off, spot⟩ := a'
    refine ⟨Z, hm, hl, b, off, fun i hi => ?_⟩
    have hc0 := (hZ 0 (by omega)).1
    have hspot : spot = none := by simpa [Addr.add] using World.cell?_spot hc0
    subst hspot
    have hadd : ∀ i, (⟨b, off, none⟩ : Addr).add i = ⟨b, off + i, none⟩ := by
      intro i
      unfold Addr.add
      split
      · rename_i h; subst h; rfl
      · rfl
    obtain ⟨h1, h2⟩ := hZ i hi
    rw [hadd] at h1 h2
    exact ⟨rfl, h1, by rw [← Nat.add_assoc] at h2; exact h2⟩
end Go.Proofs.Ytpbcndbmmphngaa
