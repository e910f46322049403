/- What is sealed by names up to 20, and a number up to 3: the law's own helper. -/
import Derived.Test.YtgfnngpbngmalaaAeadM
namespace Go.Proofs.Ytgfnngpbngmalaa
open Go.RowKit
set_option linter.unusedVariables false
def pickT (x0 x1 x2 x3 : Int) : Tm := sealT (1 + x0 % 20) (x3 % 4) (1 + x1 % 20) (1 + x2 % 20)
section
variable {base g : Nat} {most : Int} {Q2 : (Nat → Prop) → List Tm → World → Prop} {L L2 : List Tm} {K : Nat → Prop} {w0 w : World}

set_option maxHeartbeats 1000000 in
theorem Pair.pickP {L' : List Tm} {a e x0 x1 x2 x3 : Int} (g2 : Good base Q2) (h : Pair base (PSq base g most) Q2 L L2 K w0 w) (b0 : 0 ≤ x0 ∧ x0 ≤ 255) (b1 : 0 ≤ x1 ∧ x1 ≤ 255) (b2 : 0 ≤ x2 ∧ x2 ≤ 255) (b3 : 0 ≤ x3 ∧ x3 ≤ 255) (hf : putF L most (pickT x0 x1 x2 x3) = (a, e, L')) :
    Calls Try.prog 21 #[.pointer (some ⟨g, 0, none⟩), .agg #[.int .u8 x0, .int .u8 x1, .int .u8 x2, .int .u8 x3]] w (TwoK (.int .i64 a) (.int .i64 e) (Pair base (PSq base g most) Q2 L' L2 K w0) K w) := by
  have gP := PSq.good base g most
  have HKl := Lib.hid (show ∀ k, K k → k < w.heap.size by obtain ⟨F1, F2, _, _, _, h4, _⟩ := h; exact fun k hk => (h4 k hk).2.2)
  have hb0 : Below w.heap.size w (w.alloc (.cells #[.int .u8 x0, .int .u8 x1, .int .u8 x2, .int .u8 x3] 43)) := (Below.refl _ _).alloc (Nat.le_refl _) _
  have H := Lib.hid (h.below gP g2 hb0)
  have HB := Lib.hid hb0
  have HF := Lib.hid hf
  have I0 : Hid (I64 (1 + x0 % 20)) := Lib.hid (i64_small (by omega) (by omega))
  have I1 : Hid (I64 (1 + x1 % 20)) := Lib.hid (i64_small (by omega) (by omega))
  have I2 : Hid (I64 (1 + x2 % 20)) := Lib.hid (i64_small (by omega) (by omega))
  have I3 : Hid (U64 (x3 % 4)) := Lib.hid (u64_small (by omega) (by omega))
  obtain ⟨c0, d0⟩ := b0
  obtain ⟨c1, d1⟩ := b1
  obtain ⟨c2, d2⟩ := b2
  obtain ⟨c3, d3⟩ := b3
  clear h hb0 hf
  go_enter Try.func21, Try.ntmps21
  go_wp2_with fail
  refine (H.out.sealP g2 I0.out I3.out I1.out I2.out HF.out).mono ?_
  rintro e1 w1 ⟨rfl, h1, hk1⟩
  have H1 := Lib.hid h1
  have HK1 := Lib.hid hk1
  clear h1 hk1 H
  go_wp2_with fail
  go_ret2
  exact ⟨rfl, H1.out, fun k hk => (HK1.out k hk).trans (HB.out.block k (HKl.out k hk))⟩
end
end Go.Proofs.Ytgfnngpbngmalaa
