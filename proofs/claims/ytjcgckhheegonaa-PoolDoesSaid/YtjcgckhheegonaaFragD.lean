/- A part: the document's Decode. -/
import Derived.Test.YtjcgckhheegonaaFragE
namespace Go.Proofs.Ytjcgckhheegonaa
open Go.RowKit
set_option linter.unusedVariables false
set_option linter.unusedSimpArgs false
set_option maxRecDepth 20000

theorem Chg.setCell (w : World) (b i : Nat) (v : Value) : Chg (fun k => k = b) w (w.setCell ⟨b, i, none⟩ v) :=
  ⟨rfl, rfl, rfl, by simp, fun k hk hs => heap_setCell_other _ _ _ _ (by exact hs)⟩
theorem Chg.out {w w1 w2 : World} {B q : Nat} (h : Below B w w1) (hc : Chg (fun k => k = q) w1 w2) (hq : B ≤ q) (hB : B ≤ w1.heap.size) : Below B w w2 := h.trans (hc.below (fun k e => by rw [e]; exact hq) hB)
theorem chg4 (w : World) (b : Nat) (v0 v1 v2 v3 : Value) : Chg (fun k => k = b) w ((((w.setCell ⟨b, 0, none⟩ v0).setCell ⟨b, 1, none⟩ v1).setCell ⟨b, 2, none⟩ v2).setCell ⟨b, 3, none⟩ v3) :=
  (((Chg.setCell w b 0 v0).trans (Chg.setCell _ b 1 v1)).trans (Chg.setCell _ b 2 v2)).trans (Chg.setCell _ b 3 v3)
theorem wrap_i64 {x : Int} (h0 : 0 ≤ x) (h1 : x ≤ 9223372036854775807) : IntKind.i64.wrap x = x := by
  have e1 : x % 2 ^ 64 = x := by omega
  simp only [IntKind.wrap, IntKind.bits, IntKind.signed, e1]
  rw [if_neg (by simp; omega)]
theorem retFE {f : Fr} {E F : Int} {cs : Array Value} (h : f.cl = cs) (e : E = F) : Ending.returned (.tuple #[.agg cs, .int .i64 E]) = .returned (.tuple #[f.v, .int .i64 F]) := by subst h e; rfl
end Go.Proofs.Ytjcgckhheegonaa
