/- Parts that came in: one by value, a row of them; the law's own loop over a row. -/
import Derived.Test.YtjcgckhheegonaaRowC
import Derived.Test.YtjcgckhheegonaaRowJ
import Derived.WalkKit
import Derived.ProofKit
import Derived.OpenShut
import Derived.ShutString
import Derived.ChangeOld
import Derived.Below
namespace Go.Proofs.Ytjcgckhheegonaa
open Go.RowKit
open Go.ChangeShapes Go.WideShapes
set_option linter.unusedVariables false
set_option linter.unusedSimpArgs false
set_option maxRecDepth 20000

theorem cellsFr : Try.prog.cellsOf 35 = 4 := by kernel_rfl
theorem cellsI1 : Try.prog.cellsOf 3 = 1 := by kernel_rfl
theorem cellsU1 : Try.prog.cellsOf 32 = 1 := by kernel_rfl
theorem cellsS1 : Try.prog.cellsOf 9 = 1 := by kernel_rfl
theorem open_fragL {H : Type} {enc : TypeId × Value → H} {w : World} {base : Nat} {sp : Nat → Bool} {held : Bool} {fuel : Nat} {cs : List Value} {x : DataW H × List MemPlace} (h : DataW.trod enc Try.prog w base sp held fuel 35 cs = some x) :
    ∃ f : Fr, cs = f.cl.toList ∧ f.Wf := by
  obtain ⟨xs, n, _, rfl, hl, hlen, hf⟩ := DataW.trod_struct Try.underlying35 h
  rw [cellsFr] at hl
  match cs, hl with
  | [v0, v1, v2, v3], _ =>
    match xs, hlen with
    | [y0, y1, y2, y3], _ =>
      have f0 : DataW.trod enc Try.prog w base sp held n 32 ((([v0, v1, v2, v3] : List Value).drop 0).take (Try.prog.cellsOf 32)) = some y0 := hf 0 _ rfl
      have f1 : DataW.trod enc Try.prog w base sp held n 3 ((([v0, v1, v2, v3] : List Value).drop 1).take (Try.prog.cellsOf 3)) = some y1 := hf 1 _ rfl
      have f2 : DataW.trod enc Try.prog w base sp held n 3 ((([v0, v1, v2, v3] : List Value).drop 2).take (Try.prog.cellsOf 3)) = some y2 := hf 2 _ rfl
      have f3 : DataW.trod enc Try.prog w base sp held n 9 ((([v0, v1, v2, v3] : List Value).drop 3).take (Try.prog.cellsOf 9)) = some y3 := hf 3 _ rfl
      rw [cellsU1] at f0
      rw [cellsI1] at f1 f2
      rw [cellsS1] at f3
      simp at f0 f1 f2 f3
      obtain ⟨x0, e0, _, w0⟩ := DataW.trod_int Try.underlying32 f0
      obtain ⟨x1, e1, _, w1⟩ := DataW.trod_int Try.underlying3 f1
      obtain ⟨x2, e2, _, w2⟩ := DataW.trod_int Try.underlying3 f2
      obtain ⟨x3, e3, _, w3⟩ := DataW.trod_string Try.underlying9 f3
      simp at e0 e1 e2 e3
      exact ⟨⟨x0, x1, x2, x3⟩, by simp [Fr.cl, e0, e1, e2, e3], w0, w1, w2, w3⟩
theorem open_frag {H : Type} {enc : TypeId × Value → H} {w : World} {base : Nat} {sp : Nat → Bool} {held : Bool} {fuel : Nat} {cs : Array Value} {x : DataW H × List MemPlace} (h : DataW.trod enc Try.prog w base sp held fuel 35 cs.toList = some x) :
    ∃ f : Fr, cs = f.cl ∧ f.Wf := by
  obtain ⟨f, e, hf⟩ := open_fragL h
  exact ⟨f, by apply Array.ext'; exact e, hf⟩
/-- A row of parts that came in, or nil: as many as it is long. -/
theorem open_frags {H : Type} {enc : TypeId × Value → H} {w : World} {base : Nat} {sp : Nat → Bool} {held : Bool} {fuel : Nat} {a : Option Addr} {len cap : Nat} {x : DataW H × List MemPlace}
    (h : DataW.trod enc Try.prog w base sp held fuel 23 [.slice a len cap] = some x) : ∃ fs : List Fr, len = fs.length ∧ RowF w a cap fs ∧ ∀ f, f ∈ fs → f.Wf := by
  rcases Go.Deep.open_slice Try.underlying23 h with ⟨hcs, _⟩ | ⟨a', l, c, m, n, D, Pl, hcs, _, hl, hm, hmm, _, hx⟩
  · simp at hcs
    obtain ⟨rfl, rfl, rfl⟩ := hcs
    exact ⟨[], rfl, RowF.none w, fun f hf => by simp at hf⟩
  · simp at hcs
    obtain ⟨rfl, rfl, rfl⟩ := hcs
    have hlm : len ≤ m := by rw [hmm]; split <;> omega
    rw [cellsFr] at hx
    have hall : ∀ i, i < len → ∃ f : Fr, f.Wf ∧ ∀ j u, f.cl.toList[j]? = some u → w.cell? (a'.add (i * 4 + j)) = some u := by
      intro i hi
      obtain ⟨cs', h1, h2⟩ := hx i (by omega)
      obtain ⟨f, rfl, hf⟩ := open_fragL h2
      obtain ⟨_, _, h3⟩ := World.cells?_some h1
      refine ⟨f, hf, fun j u hj => ?_⟩
      have hj4 : j < 4 := by
        rcases Nat.lt_or_ge j 4 with q | q
        · exact q
        · rw [List.getElem?_eq_none (by rw [cl_len]; exact q)] at hj; cases hj
      have := h3 j hj4
      rw [Go.Deep.add_add] at this
      rw [this]; exact hj
    have : Inhabited Fr := ⟨zeroF⟩
    obtain ⟨F, hF⟩ := Go.Deep.choose_lt hall
    refine ⟨(List.range len).map F, by simp, ?_, fun f hf => ?_⟩
    · obtain ⟨b, off, spot⟩ := a'
      refine ⟨by simpa using hl, hm, b, off, fun j hj => ?_⟩
      have hj' : j < len := by simpa using hj
      have hc0 := (hF 0 (by omega)).2 0 _ rfl
      have hspot : spot = none := by simpa [Addr.add] using World.cell?_spot hc0
      subst hspot
      have hadd : ∀ i, (⟨b, off, none⟩ : Addr).add i = ⟨b, off + i, none⟩ := by
        intro i
        unfold Addr.add
        split
        · rename_i h; subst h; rfl
        · rfl
      have hg : ((List.range len).map F).getD j zeroF = F j := by simp [List.getD, hj']
      rw [hg]
      have hc := (hF j hj').2
      refine ⟨rfl, ?_, ?_, ?_, ?_⟩
      · have := hc 0 _ rfl; rw [hadd] at this; exact this
      · have := hc 1 _ rfl; rw [hadd, ← Nat.add_assoc] at this; exact this
      · have := hc 2 _ rfl; rw [hadd, ← Nat.add_assoc] at this; exact this
      · have := hc 3 _ rfl; rw [hadd, ← Nat.add_assoc] at this; exact this
    · rw [List.mem_map] at hf
      obtain ⟨i, hi, rfl⟩ := hf
      exact (hF i (List.mem_range.1 hi)).1
end Go.Proofs.Ytjcgckhheegonaa
