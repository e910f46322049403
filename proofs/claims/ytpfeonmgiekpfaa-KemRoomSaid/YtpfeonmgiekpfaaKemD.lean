/- The document's Open of a box, for every store, as a function of its terms. -/
import Derived.Test.YtpfeonmgiekpfaaKemC
namespace Go.Proofs.Ytpfeonmgiekpfaa
open Go.RowKit
set_option linter.unusedVariables false
section
variable {base g : Nat} {most : Int} {Q2 : (Nat → Prop) → List Tm → World → Prop} {L L2 : List Tm} {K : Nat → Prop} {w0 w : World}

set_option maxHeartbeats 4000000 in
theorem Pair.openR {L' : List Tm} {a e x c : Int} (g2 : Good base Q2) (h : Pair base (RSq base g most) Q2 L L2 K w0 w) (hxw : I64 x) (hf : openF L most x c = (a, e, L')) :
    Calls Try.prog 14 #[.pointer (some ⟨g, 0, none⟩), .int .i64 x, .int .i64 c] w (TwoK (.int .i64 a) (.int .i64 e) (Pair base (RSq base g most) Q2 L' L2 K w0) K w) := by
  have gR := RSq.good base g most
  have hKl : ∀ k, K k → k < w.heap.size := by obtain ⟨F1, F2, _, _, _, h4, _⟩ := h; exact fun k hk => (h4 k hk).2.2
  have HKl := Lib.hid hKl
  have hfl : Fit L ∧ (L.length : Int) ≤ 1048576 := by
    obtain ⟨F1, F2, ⟨sv, hr, _, _, _, hm, hf, hl⟩, _⟩ := h
    exact ⟨hf, by omega⟩
  have HFit := Lib.hid hfl
  obtain ⟨⟨tx, okx⟩, hgx⟩ : ∃ y, getT L x = y := ⟨_, rfl⟩
  obtain ⟨⟨tc, okc⟩, hgc⟩ : ∃ y, getT L c = y := ⟨_, rfl⟩
  have H := Lib.hid h
  have HGX := Lib.hid hgx
  have HGC := Lib.hid hgc
  have HX := Lib.hid hxw
  have HF := Lib.hid hf
  clear h hKl hxw hf hgx hgc hfl
  have hno : ¬ ((okx = true) ∧ okc = true) → openF L most x c = (0, 1, L) := fun hn => open_arg (by rw [HGX.out, HGC.out]; exact hn)
  have HNO := Lib.hid hno
  clear hno
  obtain ⟨XK, XS, XN, XA, XB, XC⟩ := tx
  obtain ⟨CK, CS, CN, CA, CB, CC⟩ := tc
  cases okx with
  | false =>
    have hw := HF.out
    rw [HNO.out (by simp)] at hw
    injection hw with e1 hw
    injection hw with e2 e3
    subst e1 e2 e3
    cases okc with
    | false =>
      go_enter Try.func14, Try.ntmps14
      go_wp2_with fail
      refine (H.out.getR g2 x HGX.out).mono ?_
      rintro e1 w1 ⟨rfl, h1, hb1⟩
      rw [show ((⟨XK, XS, XN, XA, XB, XC⟩, false) : Tm × Bool).1.v = .agg #[.int .i64 XK, .string XS, .int .u64 XN, .int .i64 XA, .int .i64 XB, .int .i64 XC] from rfl]
      have H1 := Lib.hid (h1.below gR g2 ((Below.refl _ _).alloc (Nat.le_refl _) (.cells #[.int .i64 XK, .string XS, .int .u64 XN, .int .i64 XA, .int .i64 XB, .int .i64 XC] 59)))
      have HB1 := Lib.hid (hb1.alloc hb1.size (.cells #[.int .i64 XK, .string XS, .int .u64 XN, .int .i64 XA, .int .i64 XB, .int .i64 XC] 59))
      clear h1 hb1
      go_wp2_with fail
      refine (H1.out.getR g2 c HGC.out).mono ?_
      rintro e2 w2 ⟨rfl, h2, hb2⟩
      rw [show ((⟨CK, CS, CN, CA, CB, CC⟩, false) : Tm × Bool).1.v = .agg #[.int .i64 CK, .string CS, .int .u64 CN, .int .i64 CA, .int .i64 CB, .int .i64 CC] from rfl]
      have H2 := Lib.hid (h2.below gR g2 ((Below.refl _ _).alloc (Nat.le_refl _) (.cells #[.int .i64 CK, .string CS, .int .u64 CN, .int .i64 CA, .int .i64 CB, .int .i64 CC] 59)))
      have HB2 := Lib.hid ((HB1.out.trans (hb2.mono HB1.out.size)).alloc (by have := HB1.out.size; have := hb2.size; omega) (.cells #[.int .i64 CK, .string CS, .int .u64 CN, .int .i64 CA, .int .i64 CB, .int .i64 CC] 59))
      clear h2 hb2 H H1
      go_wp2_with fail
      go_ret2
      exact ⟨rfl, H2.out, fun k hk => HB2.out.block k (HKl.out k hk)⟩
    | true =>
      go_enter Try.func14, Try.ntmps14
      go_wp2_with fail
      refine (H.out.getR g2 x HGX.out).mono ?_
      rintro e1 w1 ⟨rfl, h1, hb1⟩
      rw [show ((⟨XK, XS, XN, XA, XB, XC⟩, false) : Tm × Bool).1.v = .agg #[.int .i64 XK, .string XS, .int .u64 XN, .int .i64 XA, .int .i64 XB, .int .i64 XC] from rfl]
      have H1 := Lib.hid (h1.below gR g2 ((Below.refl _ _).alloc (Nat.le_refl _) (.cells #[.int .i64 XK, .string XS, .int .u64 XN, .int .i64 XA, .int .i64 XB, .int .i64 XC] 59)))
      have HB1 := Lib.hid (hb1.alloc hb1.size (.cells #[.int .i64 XK, .string XS, .int .u64 XN, .int .i64 XA, .int .i64 XB, .int .i64 XC] 59))
      clear h1 hb1
      go_wp2_with fail
      refine (H1.out.getR g2 c HGC.out).mono ?_
      rintro e2 w2 ⟨rfl, h2, hb2⟩
      rw [show ((⟨CK, CS, CN, CA, CB, CC⟩, true) : Tm × Bool).1.v = .agg #[.int .i64 CK, .string CS, .int .u64 CN, .int .i64 CA, .int .i64 CB, .int .i64 CC] from rfl]
      have H2 := Lib.hid (h2.below gR g2 ((Below.refl _ _).alloc (Nat.le_refl _) (.cells #[.int .i64 CK, .string CS, .int .u64 CN, .int .i64 CA, .int .i64 CB, .int .i64 CC] 59)))
      have HB2 := Lib.hid ((HB1.out.trans (hb2.mono HB1.out.size)).alloc (by have := HB1.out.size; have := hb2.size; omega) (.cells #[.int .i64 CK, .string CS, .int .u64 CN, .int .i64 CA, .int .i64 CB, .int .i64 CC] 59))
      clear h2 hb2 H H1
      go_wp2_with fail
      go_ret2
      exact ⟨rfl, H2.out, fun k hk => HB2.out.block k (HKl.out k hk)⟩
  | true =>
    cases okc with
    | false =>
      have hw := HF.out
      rw [HNO.out (by simp)] at hw
      injection hw with e1 hw
      injection hw with e2 e3
      subst e1 e2 e3
      go_enter Try.func14, Try.ntmps14
      go_wp2_with fail
      refine (H.out.getR g2 x HGX.out).mono ?_
      rintro e1 w1 ⟨rfl, h1, hb1⟩
      rw [show ((⟨XK, XS, XN, XA, XB, XC⟩, true) : Tm × Bool).1.v = .agg #[.int .i64 XK, .string XS, .int .u64 XN, .int .i64 XA, .int .i64 XB, .int .i64 XC] from rfl]
      have H1 := Lib.hid (h1.below gR g2 ((Below.refl _ _).alloc (Nat.le_refl _) (.cells #[.int .i64 XK, .string XS, .int .u64 XN, .int .i64 XA, .int .i64 XB, .int .i64 XC] 59)))
      have HB1 := Lib.hid (hb1.alloc hb1.size (.cells #[.int .i64 XK, .string XS, .int .u64 XN, .int .i64 XA, .int .i64 XB, .int .i64 XC] 59))
      clear h1 hb1
      go_wp2_with fail
      refine (H1.out.getR g2 c HGC.out).mono ?_
      rintro e2 w2 ⟨rfl, h2, hb2⟩
      rw [show ((⟨CK, CS, CN, CA, CB, CC⟩, false) : Tm × Bool).1.v = .agg #[.int .i64 CK, .string CS, .int .u64 CN, .int .i64 CA, .int .i64 CB, .int .i64 CC] from rfl]
      have H2 := Lib.hid (h2.below gR g2 ((Below.refl _ _).alloc (Nat.le_refl _) (.cells #[.int .i64 CK, .string CS, .int .u64 CN, .int .i64 CA, .int .i64 CB, .int .i64 CC] 59)))
      have HB2 := Lib.hid ((HB1.out.trans (hb2.mono HB1.out.size)).alloc (by have := HB1.out.size; have := hb2.size; omega) (.cells #[.int .i64 CK, .string CS, .int .u64 CN, .int .i64 CA, .int .i64 CB, .int .i64 CC] 59))
      clear h2 hb2 H H1
      go_wp2_with fail
      go_ret2
      exact ⟨rfl, H2.out, fun k hk => HB2.out.block k (HKl.out k hk)⟩
    | true =>
      by_cases hK : CK = 6
      · subst hK
        by_cases hA : CA = x
        · subst hA
          have hpi := part_in HFit.out.1 HGC.out 1 (by show 1 < many 6; decide)
          have hpr := getT_in HGC.out
          have hlen := HFit.out.2
          simp [prt] at hpi
          have HWk := Lib.hid (kem_wf HX.out (i64_small (x := CB) (by omega) (by omega)))
          have hf := HF.out
          rw [open_yes HGX.out HGC.out ⟨rfl, rfl⟩ rfl] at hf
          have HFP := Lib.hid hf
          have hAA : (CA != CA) = false := by simp
          clear hpi hpr hlen hf HF HNO
          go_enter Try.func14, Try.ntmps14
          go_wp2_with fail
          refine (H.out.getR g2 CA HGX.out).mono ?_
          rintro e1 w1 ⟨rfl, h1, hb1⟩
          rw [show ((⟨XK, XS, XN, XA, XB, XC⟩, true) : Tm × Bool).1.v = .agg #[.int .i64 XK, .string XS, .int .u64 XN, .int .i64 XA, .int .i64 XB, .int .i64 XC] from rfl]
          have H1 := Lib.hid (h1.below gR g2 ((Below.refl _ _).alloc (Nat.le_refl _) (.cells #[.int .i64 XK, .string XS, .int .u64 XN, .int .i64 XA, .int .i64 XB, .int .i64 XC] 59)))
          have HB1 := Lib.hid (hb1.alloc hb1.size (.cells #[.int .i64 XK, .string XS, .int .u64 XN, .int .i64 XA, .int .i64 XB, .int .i64 XC] 59))
          clear h1 hb1
          go_wp2_with fail
          refine (H1.out.getR g2 c HGC.out).mono ?_
          rintro e2 w2 ⟨rfl, h2, hb2⟩
          rw [show ((⟨6, CS, CN, CA, CB, CC⟩, true) : Tm × Bool).1.v = .agg #[.int .i64 6, .string CS, .int .u64 CN, .int .i64 CA, .int .i64 CB, .int .i64 CC] from rfl]
          have H2 := Lib.hid (h2.below gR g2 ((Below.refl _ _).alloc (Nat.le_refl _) (.cells #[.int .i64 6, .string CS, .int .u64 CN, .int .i64 CA, .int .i64 CB, .int .i64 CC] 59)))
          have HB2 := Lib.hid ((HB1.out.trans (hb2.mono HB1.out.size)).alloc (by have := HB1.out.size; have := hb2.size; omega) (.cells #[.int .i64 6, .string CS, .int .u64 CN, .int .i64 CA, .int .i64 CB, .int .i64 CC] 59))
          clear h2 hb2 H H1
          go_wp2_with fail
          refine (H2.out.putR g2 (kemT CA CB) HWk.out HFP.out).mono ?_
          rintro e3 w3 ⟨rfl, h3, hk3⟩
          have H3 := Lib.hid h3
          have HK3 := Lib.hid hk3
          clear h3 hk3 H2
          go_wp2_with fail
          go_ret2
          exact ⟨rfl, H3.out, fun k hk => (HK3.out k hk).trans (HB2.out.block k (HKl.out k hk))⟩
        · have hA1 : (CA != x) = true := by simpa using hA
          have hw := HF.out
          rw [open_box HGX.out HGC.out (by simp [hA])] at hw
          injection hw with e1 hw
          injection hw with e2 e3
          subst e1 e2 e3
          clear hA HNO
          go_enter Try.func14, Try.ntmps14
          go_wp2_with fail
          refine (H.out.getR g2 x HGX.out).mono ?_
          rintro e1 w1 ⟨rfl, h1, hb1⟩
          rw [show ((⟨XK, XS, XN, XA, XB, XC⟩, true) : Tm × Bool).1.v = .agg #[.int .i64 XK, .string XS, .int .u64 XN, .int .i64 XA, .int .i64 XB, .int .i64 XC] from rfl]
          have H1 := Lib.hid (h1.below gR g2 ((Below.refl _ _).alloc (Nat.le_refl _) (.cells #[.int .i64 XK, .string XS, .int .u64 XN, .int .i64 XA, .int .i64 XB, .int .i64 XC] 59)))
          have HB1 := Lib.hid (hb1.alloc hb1.size (.cells #[.int .i64 XK, .string XS, .int .u64 XN, .int .i64 XA, .int .i64 XB, .int .i64 XC] 59))
          clear h1 hb1
          go_wp2_with fail
          refine (H1.out.getR g2 c HGC.out).mono ?_
          rintro e2 w2 ⟨rfl, h2, hb2⟩
          rw [show ((⟨6, CS, CN, CA, CB, CC⟩, true) : Tm × Bool).1.v = .agg #[.int .i64 6, .string CS, .int .u64 CN, .int .i64 CA, .int .i64 CB, .int .i64 CC] from rfl]
          have H2 := Lib.hid (h2.below gR g2 ((Below.refl _ _).alloc (Nat.le_refl _) (.cells #[.int .i64 6, .string CS, .int .u64 CN, .int .i64 CA, .int .i64 CB, .int .i64 CC] 59)))
          have HB2 := Lib.hid ((HB1.out.trans (hb2.mono HB1.out.size)).alloc (by have := HB1.out.size; have := hb2.size; omega) (.cells #[.int .i64 6, .string CS, .int .u64 CN, .int .i64 CA, .int .i64 CB, .int .i64 CC] 59))
          clear h2 hb2 H H1
          go_wp2_with fail
          go_ret2
          exact ⟨rfl, H2.out, fun k hk => HB2.out.block k (HKl.out k hk)⟩
      · have hK1 : (CK != 6) = true := by simpa using hK
        have hw := HF.out
        rw [open_box HGX.out HGC.out (by simp [hK])] at hw
        injection hw with e1 hw
        injection hw with e2 e3
        subst e1 e2 e3
        clear hK HNO
        go_enter Try.func14, Try.ntmps14
        go_wp2_with fail
        refine (H.out.getR g2 x HGX.out).mono ?_
        rintro e1 w1 ⟨rfl, h1, hb1⟩
        rw [show ((⟨XK, XS, XN, XA, XB, XC⟩, true) : Tm × Bool).1.v = .agg #[.int .i64 XK, .string XS, .int .u64 XN, .int .i64 XA, .int .i64 XB, .int .i64 XC] from rfl]
        have H1 := Lib.hid (h1.below gR g2 ((Below.refl _ _).alloc (Nat.le_refl _) (.cells #[.int .i64 XK, .string XS, .int .u64 XN, .int .i64 XA, .int .i64 XB, .int .i64 XC] 59)))
        have HB1 := Lib.hid (hb1.alloc hb1.size (.cells #[.int .i64 XK, .string XS, .int .u64 XN, .int .i64 XA, .int .i64 XB, .int .i64 XC] 59))
        clear h1 hb1
        go_wp2_with fail
        refine (H1.out.getR g2 c HGC.out).mono ?_
        rintro e2 w2 ⟨rfl, h2, hb2⟩
        rw [show ((⟨CK, CS, CN, CA, CB, CC⟩, true) : Tm × Bool).1.v = .agg #[.int .i64 CK, .string CS, .int .u64 CN, .int .i64 CA, .int .i64 CB, .int .i64 CC] from rfl]
        have H2 := Lib.hid (h2.below gR g2 ((Below.refl _ _).alloc (Nat.le_refl _) (.cells #[.int .i64 CK, .string CS, .int .u64 CN, .int .i64 CA, .int .i64 CB, .int .i64 CC] 59)))
        have HB2 := Lib.hid ((HB1.out.trans (hb2.mono HB1.out.size)).alloc (by have := HB1.out.size; have := hb2.size; omega) (.cells #[.int .i64 CK, .string CS, .int .u64 CN, .int .i64 CA, .int .i64 CB, .int .i64 CC] 59))
        clear h2 hb2 H H1
        go_wp2_with fail
        go_ret2
        exact ⟨rfl, H2.out, fun k hk => HB2.out.block k (HKl.out k hk)⟩
end
end Go.Proofs.Ytpfeonmgiekpfaa
