/- A state that came in; the law's own copy of it; a box that lies below both stores, set anew. -/
import Derived.Test.YtlejejeflgnglaaSymW
import Derived.Test.YtlejejeflgnglaaSymE
import Derived.Test.YtlejejeflgnglaaSymV
import Derived.Test.YtlejejeflgnglaaSymR
import Derived.Test.YtlejejeflgnglaaOpens
namespace Go.Proofs.Ytlejejeflgnglaa
open Go.RowKit
open Go.ChangeShapes Go.WideShapes
set_option linter.unusedVariables false
set_option linter.unusedSimpArgs false
set_option maxRecDepth 20000

theorem cellsY : Try.prog.cellsOf 25 = 4 := by kernel_rfl
theorem open_sym {H : Type} {enc : TypeId × Value → H} {w : World} {base : Nat} {sp : Nat → Bool} {held : Bool} {fuel : Nat} {cs : Array Value} {x : DataW H × List MemPlace} (h : DataW.trod enc Try.prog w base sp held fuel 25 cs.toList = some x) :
    ∃ y : Sy, cs = #[.int .i64 y.CK, .int .i64 y.K, .int .i64 y.H, .int .u64 y.N] ∧ y.Wf := by
  obtain ⟨l⟩ := cs
  obtain ⟨xs, n, _, rfl, hl, hlen, hf⟩ := DataW.trod_struct Try.underlying25 h
  rw [cellsY] at hl
  match l, hl with
  | [v0, v1, v2, v3], _ =>
    match xs, hlen with
    | [y0, y1, y2, y3], _ =>
      have f0 : DataW.trod enc Try.prog w base sp held n 3 ((([v0, v1, v2, v3] : List Value).drop 0).take (Try.prog.cellsOf 3)) = some y0 := hf 0 _ rfl
      have f1 : DataW.trod enc Try.prog w base sp held n 3 ((([v0, v1, v2, v3] : List Value).drop 1).take (Try.prog.cellsOf 3)) = some y1 := hf 1 _ rfl
      have f2 : DataW.trod enc Try.prog w base sp held n 3 ((([v0, v1, v2, v3] : List Value).drop 2).take (Try.prog.cellsOf 3)) = some y2 := hf 2 _ rfl
      have f3 : DataW.trod enc Try.prog w base sp held n 23 ((([v0, v1, v2, v3] : List Value).drop 3).take (Try.prog.cellsOf 23)) = some y3 := hf 3 _ rfl
      rw [cells3] at f0 f1 f2
      rw [cells30] at f3
      simp at f0 f1 f2 f3
      obtain ⟨CK, e0, _, w0⟩ := DataW.trod_int Try.underlying3 f0
      obtain ⟨K, e1, _, w1⟩ := DataW.trod_int Try.underlying3 f1
      obtain ⟨Hh, e2, _, w2⟩ := DataW.trod_int Try.underlying3 f2
      obtain ⟨N, e3, _, w3⟩ := DataW.trod_int Try.underlying23 f3
      simp at e0 e1 e2 e3
      exact ⟨⟨CK, K, Hh, N⟩, by simp [e0, e1, e2, e3], w0, w1, w2, w3⟩
set_option maxHeartbeats 400000 in
theorem refY_c (y : Sy) (w : World) : Calls Try.prog 10 #[y.v] w fun e w' => e = .returned y.v ∧ Below w.heap.size w w' := by
  obtain ⟨yc, yk, yh, yn⟩ := y
  unfold Sy.v
  go_enter Try.func10, Try.ntmps10
  go_wp2
  exact bodyPost_ret (v := .agg #[.int .i64 yc, .int .i64 yk, .int .i64 yh, .int .u64 yn]) (by simp [results, Try.results10, go_sem]) rfl ⟨rfl, ((Below.refl _ _).alloc (Nat.le_refl _) _).alloc (by simp) _⟩
/-- A box below both stores is set anew, in the world from which all is reckoned too. -/
theorem Pair.setLow {base : Nat} {Q1 Q2 : (Nat → Prop) → List Tm → World → Prop} {L1 L2 : List Tm} {K : Nat → Prop} {w0 w : World} (g1 : Good base Q1) (g2 : Good base Q2) (h : Pair base Q1 Q2 L1 L2 K w0 w) {b : Nat} (hb : b < base) (i : Nat) (v : Value) : Pair base Q1 Q2 L1 L2 K (w0.setCell ⟨b, i, none⟩ v) (w.setCell ⟨b, i, none⟩ v) := by
  obtain ⟨F1, F2, h1, h2, h3, h4, h5, h6⟩ := h
  have C := Chg.setCell w b i v
  refine ⟨F1, F2, g1.frame h1 C (fun k a e => by have := (g1.bounds h1 k a).1; omega), g2.frame h2 C (fun k a e => by have := (g2.bounds h2 k a).1; omega), h3, fun k q => ⟨(h4 k q).1, (h4 k q).2.1, by simp; exact (h4 k q).2.2⟩, by simp; exact h5, ⟨h6.os, h6.tape, h6.output, by simp; exact h6.size, fun k hk => ?_⟩⟩
  simp only [World.setCell, Array.getElem?_modify]
  rw [h6.block k hk]
theorem Pair.setLow4 {base : Nat} {Q1 Q2 : (Nat → Prop) → List Tm → World → Prop} {L1 L2 : List Tm} {K : Nat → Prop} {w0 w : World} (g1 : Good base Q1) (g2 : Good base Q2) (h : Pair base Q1 Q2 L1 L2 K w0 w) {b : Nat} (hb : b < base) (v0 v1 v2 v3 : Value) : Pair base Q1 Q2 L1 L2 K (Go.Proofs.Ytlejejeflgnglaa.set4 w0 b 0 v0 v1 v2 v3) (Go.Proofs.Ytlejejeflgnglaa.set4 w b 0 v0 v1 v2 v3) :=
  (((h.setLow g1 g2 hb 0 v0).setLow g1 g2 hb 1 v1).setLow g1 g2 hb 2 v2).setLow g1 g2 hb 3 v3
end Go.Proofs.Ytlejejeflgnglaa
