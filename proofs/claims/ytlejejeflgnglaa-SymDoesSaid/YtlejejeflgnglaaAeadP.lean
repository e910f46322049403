/- The program's Seal, Open, Text and Read, as functions of a store's terms. -/
import Derived.Test.YtlejejeflgnglaaAeadC
namespace Go.Proofs.Ytlejejeflgnglaa
open Go.RowKit
set_option linter.unusedVariables false
section
variable {base g : Nat} {most : Int} {Q2 : (Nat → Prop) → List Tm → World → Prop} {L L2 : List Tm} {K : Nat → Prop} {w0 w : World}

theorem Pair.fault1v {tk tb : Tm} {XK XN XA XB XC v : Int} {XS : ByteArray} {okk okb okx : Bool} {k n b x : Int} (g2 : Good base Q2) (h : Pair base (PSq base g most) Q2 L L2 K w0 w) (hk : getT L k = (tk, okk)) (hb : getT L b = (tb, okb)) (hx : getT L x = (⟨XK, XS, XN, XA, XB, XC⟩, okx)) (hv : wrong okk okb okx (eqB ⟨XK, XS, XN, XA, XB, XC⟩ (sealT k n b XC)) = v) :
    Calls Try.prog 64 #[.pointer (some ⟨g, 0, none⟩), .int .i64 1, .int .i64 k, .int .u64 n, .int .i64 b, .int .i64 x] w (One (.int .i64 v) (Pair base (PSq base g most) Q2 L L2 K w0) w) := by
  obtain ⟨⟨PK, PS, PN, PA, PB, PC⟩, hp⟩ : ∃ t, (getT L XC).1 = t := ⟨_, rfl⟩
  have c := h.fault1P (n := n) g2 hk hb hx (hp := by rw [← hp])
  rw [hv] at c
  exact c

/-- What is opened, and read: the name, or the text, and what is wrong. -/
def openF (L : List Tm) (k n b x : Int) : Int × Int :=
  let e := wrong (getT L k).2 (getT L b).2 (getT L x).2 (eqB (getT L x).1 (sealT k n b (getT L x).1.C))
  (if e = 0 then (getT L x).1.C else 0, e)
def readF (L : List Tm) (k n b x : Int) : ByteArray × Int :=
  let e := wrongT (getT L k).2 (getT L b).2 (getT L x).2 (eqB (getT L x).1 (sealT k n b (getT L x).1.C)) ((getT L (getT L x).1.C).1.K == 1)
  (if e = 0 then (getT L (getT L x).1.C).1.S else ⟨#[]⟩, e)
/-- What a text sealed is: the name, or what is wrong, and the terms then. -/
def textF (L : List Tm) (most k n b : Int) (S : ByteArray) : Int × Int × List Tm :=
  if (getT L k).2 = true ∧ (getT L b).2 = true then
    let x := putF L most (textT S)
    if x.2.1 ≠ 0 then (0, x.2.1, x.2.2) else putF x.2.2 most (sealT k n b x.1)
  else (0, 1, L)
theorem put_i64 {L L' : List Tm} {most a e : Int} {t : Tm} (hl : (L.length : Int) ≤ 1048576) (h : putF L most t = (a, e, L')) : I64 a := by
  rcases putF_cases L most t with ⟨hp, _⟩ | ⟨j, hj, hp, hjt, _, _⟩ | ⟨hr, hp, _, _⟩ | ⟨hr, hp, _, _⟩
  all_goals
    rw [hp] at h
    injection h with h1 _
    subst h1
    exact i64_small (by omega) (by omega)

set_option maxHeartbeats 1000000 in
theorem Pair.sealP {L' : List Tm} {a e k n b p : Int} (g2 : Good base Q2) (h : Pair base (PSq base g most) Q2 L L2 K w0 w) (hk : I64 k) (hn : U64 n) (hb : I64 b) (hp : I64 p) (hf : putF L most (sealT k n b p) = (a, e, L')) :
    Calls Try.prog 53 #[.pointer (some ⟨g, 0, none⟩), .int .i64 k, .int .u64 n, .int .i64 b, .int .i64 p] w (TwoK (.int .i64 a) (.int .i64 e) (Pair base (PSq base g most) Q2 L' L2 K w0) K w) := by
  have gP := PSq.good base g most
  have HKl := Lib.hid (show ∀ k, K k → k < w.heap.size by obtain ⟨F1, F2, _, _, _, h4, _⟩ := h; exact fun k hk => (h4 k hk).2.2)
  have H := Lib.hid h
  have HW := Lib.hid (seal_wf hk hn hb hp)
  have HF := Lib.hid hf
  clear h hk hn hb hp hf
  go_enter Try.func53, Try.ntmps53
  go_wp2_with fail
  refine (sealOf_c k n b p _).mono ?_
  rintro e1 w1 ⟨rfl, hb1⟩
  have H1 := Lib.hid (H.out.below gP g2 hb1)
  have HB1 := Lib.hid hb1
  clear hb1 H
  go_wp2_with fail
  refine (H1.out.putP g2 (sealT k n b p) HW.out HF.out).mono ?_
  rintro e2 w2 ⟨rfl, h2, hk2⟩
  have H2 := Lib.hid h2
  have HK2 := Lib.hid hk2
  clear h2 hk2 H1
  go_wp2_with fail
  go_ret2
  exact ⟨rfl, H2.out, fun k hk => (HK2.out k hk).trans (HB1.out.block k (HKl.out k hk))⟩

set_option maxHeartbeats 1000000 in
theorem Pair.aopenP {a e k n b x : Int} (g2 : Good base Q2) (h : Pair base (PSq base g most) Q2 L L2 K w0 w) (hf : openF L k n b x = (a, e)) :
    Calls Try.prog 54 #[.pointer (some ⟨g, 0, none⟩), .int .i64 k, .int .u64 n, .int .i64 b, .int .i64 x] w (Two (.int .i64 a) (.int .i64 e) (Pair base (PSq base g most) Q2 L L2 K w0) w) := by
  have gP := PSq.good base g most
  obtain ⟨⟨tk, okk⟩, hgk⟩ : ∃ y, getT L k = y := ⟨_, rfl⟩
  obtain ⟨⟨tb, okb⟩, hgb⟩ : ∃ y, getT L b = y := ⟨_, rfl⟩
  obtain ⟨⟨⟨XK, XS, XN, XA, XB, XC⟩, okx⟩, hgx⟩ : ∃ y, getT L x = y := ⟨_, rfl⟩
  obtain ⟨v, hv⟩ : ∃ v, wrong okk okb okx (eqB ⟨XK, XS, XN, XA, XB, XC⟩ (sealT k n b XC)) = v := ⟨_, rfl⟩
  unfold openF at hf
  rw [hgk, hgb, hgx] at hf
  simp only [] at hf
  rw [hv] at hf
  injection hf with f1 f2
  subst f2
  have HGK := Lib.hid hgk
  have HGB := Lib.hid hgb
  have HGX := Lib.hid hgx
  have HV := Lib.hid hv
  have H := Lib.hid h
  clear hgk hgb hgx hv h
  by_cases h0 : v = 0
  · have h00 : (v != 0) = false := by simpa using h0
    rw [if_pos h0] at f1
    subst f1
    subst h0
    clear h00
    go_enter Try.func54, Try.ntmps54
    go_wp2_with fail
    refine (H.out.fault1v g2 HGK.out HGB.out HGX.out HV.out).mono ?_
    rintro e w1 ⟨rfl, hp, hb⟩
    have H1 := Lib.hid hp
    have HB1 := Lib.hid (hb)
    clear hp hb H
    go_wp2_with fail
    refine (H1.out.plainOfP g2 HGX.out).mono ?_
    rintro e w2 ⟨rfl, hp, hb⟩
    have H2 := Lib.hid hp
    have HB2 := Lib.hid (HB1.out.trans (hb.mono HB1.out.size))
    clear hp hb H1 HB1
    go_wp2
    go_ret2
    exact ⟨rfl, H2.out, HB2.out⟩
  · have h00 : (v != 0) = true := by simpa using h0
    rw [if_neg h0] at f1
    subst f1
    clear h0
    go_enter Try.func54, Try.ntmps54
    go_wp2_with fail
    refine (H.out.fault1v g2 HGK.out HGB.out HGX.out HV.out).mono ?_
    rintro e w1 ⟨rfl, hp, hb⟩
    have H1 := Lib.hid hp
    have HB1 := Lib.hid (hb)
    clear hp hb H
    go_wp2
    go_ret2
    exact ⟨rfl, H1.out, HB1.out⟩


end
end Go.Proofs.Ytlejejeflgnglaa
