/- The document's Seal, Open, Text and Read, as functions of a store's terms. -/
import Derived.Test.YtlejejeflgnglaaAeadP
namespace Go.Proofs.Ytlejejeflgnglaa
open Go.RowKit
set_option linter.unusedVariables false
section
variable {base g : Nat} {most : Int} {Q2 : (Nat → Prop) → List Tm → World → Prop} {L L2 : List Tm} {K : Nat → Prop} {w0 w : World}

/-- What lies in the document's store. -/
def AtR (g : Nat) (L : List Tm) (w : World) : Prop := ∃ a cap, w.cell? ⟨g, 0, none⟩ = some (.slice a L.length cap) ∧ L.length ≤ 1048576 ∧
  ∀ k, k < L.length → ∃ b, a = some ⟨b, 0, none⟩ ∧ ∀ j v, (L.getD k zeroT).cl[j]? = some v → w.cell? ⟨b, k * 6 + j, none⟩ = some v
theorem Pair.atR (h : Pair base (RSq base g most) Q2 L L2 K w0 w) : AtR g L w := by
  obtain ⟨F1, F2, ⟨sv, hr, _⟩, _⟩ := h
  obtain ⟨a, cap, hsv, c0, c1⟩ := hr.head
  refine ⟨a, cap, c0, hr.2.2.2.2, fun k hk => ?_⟩
  obtain ⟨b, cap', hsv', hrow⟩ := hr.row k hk
  rw [hsv] at hsv'
  injection hsv' with p1 p2 p3
  exact ⟨b, p1, hrow⟩

set_option maxHeartbeats 400000 in
theorem there_c {t : Tm} {ok : Bool} {x : Int} (h : AtR g L w) (hx : getT L x = (t, ok)) :
    Calls Try.prog 55 #[.pointer (some ⟨g, 0, none⟩), .int .i64 x] w fun e w' => e = .returned (.bool ok) ∧ w = w' := by
  obtain ⟨a, cap, c0, hl, _⟩ := h
  unfold getT at hx
  by_cases h1 : 1 ≤ x
  · have e1 : decide (x ≥ 1) = true := by simpa using h1
    have e1' : decide (1 ≤ x) = true := by simpa using h1
    by_cases h2 : x ≤ (L.length : Int)
    · have e2 : decide (x ≤ (L.length : Int)) = true := by simpa using h2
      rw [if_pos ⟨h1, h2⟩] at hx
      injection hx with _ hk
      subst hk
      go_enter Try.func55, Try.ntmps55
      go_wp2
      go_ret
      exact ⟨rfl, rfl⟩
    · have e2 : decide (x ≤ (L.length : Int)) = false := by simpa using h2
      rw [if_neg (by omega)] at hx
      injection hx with _ hk
      subst hk
      go_enter Try.func55, Try.ntmps55
      go_wp2
      go_ret
      exact ⟨rfl, rfl⟩
  · have e1 : decide (x ≥ 1) = false := by simpa using h1
    have e1' : decide (1 ≤ x) = false := by simpa using h1
    rw [if_neg (by omega)] at hx
    injection hx with _ hk
    subst hk
    go_enter Try.func55, Try.ntmps55
    go_wp2
    go_ret
    exact ⟨rfl, rfl⟩

/-- A term there, and the cells where it lies. -/
theorem AtR.at {t : Tm} {x : Int} (h : AtR g L w) (hx : getT L x = (t, true)) : ∃ (j : Nat) (bb cap : Nat), x = (j : Int) + 1 ∧ j < L.length ∧ L.length ≤ 1048576 ∧ w.cell? ⟨g, 0, none⟩ = some (.slice (some ⟨bb, 0, none⟩) L.length cap) ∧ ∀ i v, t.cl[i]? = some v → w.cell? ⟨bb, j * 6 + i, none⟩ = some v := by
  obtain ⟨a, cap, c0, hl, hr⟩ := h
  obtain ⟨h1, h2, h3⟩ := getT_in hx
  obtain ⟨bb, rfl, hc⟩ := hr (x - 1).toNat (by omega)
  rw [← h3] at hc
  exact ⟨(x - 1).toNat, bb, cap, by omega, by omega, hl, c0, hc⟩

set_option maxHeartbeats 2000000 in
theorem Pair.aopenR {a e k n b x : Int} (g2 : Good base Q2) (h : Pair base (RSq base g most) Q2 L L2 K w0 w) (hf : openF L k n b x = (a, e)) :
    Calls Try.prog 45 #[.pointer (some ⟨g, 0, none⟩), .int .i64 k, .int .u64 n, .int .i64 b, .int .i64 x] w (Two (.int .i64 a) (.int .i64 e) (Pair base (RSq base g most) Q2 L L2 K w0) w) := by
  have gR := RSq.good base g most
  obtain ⟨⟨tk, okk⟩, hgk⟩ : ∃ y, getT L k = y := ⟨_, rfl⟩
  obtain ⟨⟨tb, okb⟩, hgb⟩ : ∃ y, getT L b = y := ⟨_, rfl⟩
  obtain ⟨⟨⟨XK, XS, XN, XA, XB, XC⟩, okx⟩, hgx⟩ : ∃ y, getT L x = y := ⟨_, rfl⟩
  unfold openF at hf
  rw [hgk, hgb, hgx] at hf
  simp only [] at hf
  have HGK := Lib.hid hgk
  have HGB := Lib.hid hgb
  have HGX := Lib.hid hgx
  have H := Lib.hid h
  have HA := Lib.hid h.atR
  clear hgk hgb hgx h
  cases okk with
  | false =>
    simp [wrong] at hf
    obtain ⟨f1, f2⟩ := hf
    subst f1 f2
    go_enter Try.func45, Try.ntmps45
    go_wp2_with fail
    refine (there_c HA.out HGK.out).mono ?_
    rintro e w1 ⟨rfl, rfl⟩
    go_wp2_with fail
    go_ret2
    exact ⟨rfl, H.out, Below.refl _ _⟩
  | true =>
    cases okb with
    | false =>
      simp [wrong] at hf
      obtain ⟨f1, f2⟩ := hf
      subst f1 f2
      go_enter Try.func45, Try.ntmps45
      go_wp2_with fail
      refine (there_c HA.out HGK.out).mono ?_
      rintro e w1 ⟨rfl, rfl⟩
      go_wp2_with fail
      refine (there_c HA.out HGB.out).mono ?_
      rintro e w2 ⟨rfl, rfl⟩
      go_wp2_with fail
      go_ret2
      exact ⟨rfl, H.out, Below.refl _ _⟩
    | true =>
      cases okx with
      | false =>
        simp [wrong] at hf
        obtain ⟨f1, f2⟩ := hf
        subst f1 f2
        go_enter Try.func45, Try.ntmps45
        go_wp2_with fail
        refine (there_c HA.out HGK.out).mono ?_
        rintro e w1 ⟨rfl, rfl⟩
        go_wp2_with fail
        refine (there_c HA.out HGB.out).mono ?_
        rintro e w2 ⟨rfl, rfl⟩
        go_wp2_with fail
        refine (there_c HA.out HGX.out).mono ?_
        rintro e w3 ⟨rfl, rfl⟩
        go_wp2_with fail
        go_ret2
        exact ⟨rfl, H.out, Below.refl _ _⟩
      | true =>
        obtain ⟨j, bb, cap, rfl, hj, hl, c0, hc⟩ := HA.out.at HGX.out
        have q0 : w.cell? ⟨bb, j * 6, none⟩ = some (.int .i64 XK) := hc 0 _ rfl
        have q1 : w.cell? ⟨bb, j * 6 + 1, none⟩ = some (.string XS) := hc 1 _ rfl
        have q2 : w.cell? ⟨bb, j * 6 + 2, none⟩ = some (.int .u64 XN) := hc 2 _ rfl
        have q3 : w.cell? ⟨bb, j * 6 + 3, none⟩ = some (.int .i64 XA) := hc 3 _ rfl
        have q4 : w.cell? ⟨bb, j * 6 + 4, none⟩ = some (.int .i64 XB) := hc 4 _ rfl
        have q5 : w.cell? ⟨bb, j * 6 + 5, none⟩ = some (.int .i64 XC) := hc 5 _ rfl
        have e3 : (j : Int) < L.length := by omega
        have e4 : (j : Int) + 1 - 1 = j := by omega
        have hgb := block_lt_of_cell c0
        have hbb := block_lt_of_cell q0
        dsimp only at hgb hbb
        obtain ⟨q, hq⟩ : ∃ q, eqB ⟨XK, XS, XN, XA, XB, XC⟩ (sealT k n b XC) = q := ⟨_, rfl⟩
        have hE := neq_termR ⟨XK, XS, XN, XA, XB, XC⟩ (sealT k n b XC)
        have hgd := guard37
        rw [hq] at hE hf
        unfold Tm.v sealT at hE
        simp only [] at hE
        clear hc hq
        cases q with
        | false =>
          simp [wrong] at hf
          obtain ⟨f1, f2⟩ := hf
          subst f1 f2
          go_enter Try.func45, Try.ntmps45
          go_wp2_with fail
          refine (there_c HA.out HGK.out).mono ?_
          rintro e w1 ⟨rfl, rfl⟩
          go_wp2_with fail
          refine (there_c HA.out HGB.out).mono ?_
          rintro e w2 ⟨rfl, rfl⟩
          go_wp2_with fail
          refine (there_c HA.out HGX.out).mono ?_
          rintro e w3 ⟨rfl, rfl⟩
          have hbl := ((Below.refl w.heap.size w).alloc (Nat.le_refl _) (.cells #[.int .i64 XK, .string XS, .int .u64 XN, .int .i64 XA, .int .i64 XB, .int .i64 XC] 70)).alloc (by simp) (.cells #[.int .i64 10, .string ⟨#[]⟩, .int .u64 n, .int .i64 k, .int .i64 b, .int .i64 XC] 70)
          go_wp2_with fail
          go_ret2
          exact ⟨rfl, H.out.below gR g2 hbl, hbl⟩
        | true =>
          simp [wrong] at hf
          obtain ⟨f1, f2⟩ := hf
          subst f1 f2
          go_enter Try.func45, Try.ntmps45
          go_wp2_with fail
          refine (there_c HA.out HGK.out).mono ?_
          rintro e w1 ⟨rfl, rfl⟩
          go_wp2_with fail
          refine (there_c HA.out HGB.out).mono ?_
          rintro e w2 ⟨rfl, rfl⟩
          go_wp2_with fail
          refine (there_c HA.out HGX.out).mono ?_
          rintro e w3 ⟨rfl, rfl⟩
          have hbl := ((Below.refl w.heap.size w).alloc (Nat.le_refl _) (.cells #[.int .i64 XK, .string XS, .int .u64 XN, .int .i64 XA, .int .i64 XB, .int .i64 XC] 70)).alloc (by simp) (.cells #[.int .i64 10, .string ⟨#[]⟩, .int .u64 n, .int .i64 k, .int .i64 b, .int .i64 XC] 70)
          go_wp2_with fail
          go_ret2
          exact ⟨rfl, H.out.below gR g2 hbl, hbl⟩

set_option maxHeartbeats 1000000 in
theorem Pair.sealR {L' : List Tm} {a e k n b p : Int} (g2 : Good base Q2) (h : Pair base (RSq base g most) Q2 L L2 K w0 w) (hk : I64 k) (hn : U64 n) (hb : I64 b) (hp : I64 p) (hf : putF L most (sealT k n b p) = (a, e, L')) :
    Calls Try.prog 43 #[.pointer (some ⟨g, 0, none⟩), .int .i64 k, .int .u64 n, .int .i64 b, .int .i64 p] w (TwoK (.int .i64 a) (.int .i64 e) (Pair base (RSq base g most) Q2 L' L2 K w0) K w) := by
  have H := Lib.hid h
  have HW := Lib.hid (seal_wf hk hn hb hp)
  have HF := Lib.hid hf
  clear h hk hn hb hp hf
  go_enter Try.func43, Try.ntmps43
  go_wp2_with fail
  refine (H.out.putR g2 (sealT k n b p) HW.out HF.out).mono ?_
  rintro e2 w2 ⟨rfl, h2, hk2⟩
  have H2 := Lib.hid h2
  have HK2 := Lib.hid hk2
  clear h2 hk2 H
  go_wp2_with fail
  go_ret2
  exact ⟨rfl, H2.out, HK2.out⟩

theorem Pair.fitR (h : Pair base (RSq base g most) Q2 L L2 K w0 w) : Fit L ∧ (L.length : Int) ≤ 1048576 := by
  obtain ⟨F1, F2, ⟨sv, hr, _, _, _, hm, hf, hl⟩, _⟩ := h
  exact ⟨hf, by omega⟩
/-- What is sealed is there. -/
theorem plain_in {x k n b XK XN XA XB XC : Int} {XS : ByteArray} (hf : Fit L) (hx : getT L x = (⟨XK, XS, XN, XA, XB, XC⟩, true)) (hq : eqB ⟨XK, XS, XN, XA, XB, XC⟩ (sealT k n b XC) = true) : (getT L XC).2 = true := by
  have h1 := (eqB_iff _ _).1 hq
  unfold sealT at h1
  injection h1 with h1
  subst h1
  have hp := part_in hf hx 2 (by show 2 < many 10; decide)
  have hi := getT_in hx
  simp [prt] at hp
  unfold getT
  rw [if_pos (by omega)]
theorem wrongT_of {okk okb okx eq tx : Bool} : wrongT okk okb okx eq tx = if wrong okk okb okx eq = 0 then (if tx then 0 else 9) else wrong okk okb okx eq := by
  cases okk <;> cases okb <;> cases okx <;> cases eq <;> cases tx <;> rfl
theorem wrong_zero {okk okb okx eq : Bool} (h : wrong okk okb okx eq = 0) : okx = true ∧ eq = true := by
  revert h
  cases okk <;> cases okb <;> cases okx <;> cases eq <;> simp [wrong]


end
end Go.Proofs.Ytlejejeflgnglaa
