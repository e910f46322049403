/- The program's and the document's public keys and shared secrets, as functions of a store's terms: contracts of all their calls. -/
import Derived.Test.YtdhfnbajmjmlbaaWords
namespace Go.Proofs.Ytdhfnbajmjmlbaa
open Go.RowKit
set_option linter.unusedVariables false

def pubT (x : Int) : Tm := ⟨3, ⟨#[]⟩, 0, x, 0, 0⟩
def shareT (x y : Int) : Tm := ⟨4, ⟨#[]⟩, 0, x, y, 0⟩
theorem pub_wf {x : Int} (h : I64 x) : Wf (pubT x) := ⟨wf_emp, k3, u0, h, k0, k0⟩
theorem share_wf {x y : Int} (h : I64 x) (k : I64 y) : Wf (shareT x y) := ⟨wf_emp, k4, u0, h, k, k0⟩

/-- The secret of which a name is the public key. -/
def secF (L : List Tm) (p : Int) : Int × Bool := if (getT L p).2 = true ∧ (getT L p).1.K = 3 then ((getT L p).1.A, true) else (0, false)
/-- What both share, and the terms that are there then. -/
def agreeF (L : List Tm) (most : Int) (x p : Int) : Int × Int × List Tm :=
  if (secF L p).2 = true then putF L most (shareT (if x ≤ (secF L p).1 then x else (secF L p).1) (if x ≤ (secF L p).1 then (secF L p).1 else x)) else (0, 1, L)

theorem sec_in {L : List Tm} {p a : Int} (hf : Fit L) (h : secF L p = (a, true)) : 1 ≤ p ∧ p ≤ (L.length : Int) ∧ 1 ≤ a ∧ a < p := by
  unfold secF at h
  split at h
  · rename_i hp
    obtain ⟨t, ht⟩ : ∃ t, t = (getT L p).1 := ⟨_, rfl⟩
    have h2 : getT L p = (t, true) := by rw [ht, ← hp.1]
    obtain ⟨q1, q2, q3⟩ := getT_in h2
    have h3 := hf (p - 1).toNat (by omega) 0 (by rw [← q3, ht, hp.2]; decide)
    rw [← q3] at h3
    simp [prt] at h3
    injection h with h4 h5
    rw [h2] at h4
    simp only at h4
    omega
  · injection h with h1 h2; cases h2

section
variable {base g : Nat} {most : Int} {Q2 : (Nat → Prop) → List Tm → World → Prop} {L L2 : List Tm} {K : Nat → Prop} {w0 w : World}

set_option maxHeartbeats 400000 in
theorem Pair.publicP {L' : List Tm} {a b x : Int} (g2 : Good base Q2) (h : Pair base (PSq base g most) Q2 L L2 K w0 w) (hx : I64 x) (hf : putF L most (pubT x) = (a, b, L')) :
    Calls Try.prog 21 #[.pointer (some ⟨g, 0, none⟩), .int .i64 x] w fun e w' => e = .returned (.tuple #[.int .i64 a, .int .i64 b]) ∧ Pair base (PSq base g most) Q2 L' L2 K w0 w' ∧ ∀ k, K k → w'.heap[k]? = w.heap[k]? := by
  have H := Lib.hid h
  have HX := Lib.hid hx
  have HF := Lib.hid hf
  clear h hx hf
  go_enter Try.func21, Try.ntmps21
  go_wp2_with fail
  refine (H.out.putP g2 (pubT x) (pub_wf HX.out) HF.out).mono ?_
  rintro e w1 ⟨rfl, h1, hk⟩
  have H1 := Lib.hid h1
  have HK := Lib.hid hk
  clear h1 hk H HF
  go_wp2_with fail
  go_ret2
  exact ⟨rfl, H1.out, HK.out⟩


set_option maxHeartbeats 1000000 in
theorem Pair.secretOfP {a : Int} {ok : Bool} (g2 : Good base Q2) (h : Pair base (PSq base g most) Q2 L L2 K w0 w) (p : Int) (hs : secF L p = (a, ok)) :
    Calls Try.prog 41 #[.pointer (some ⟨g, 0, none⟩), .int .i64 p] w (Two (.int .i64 a) (.bool ok) (Pair base (PSq base g most) Q2 L L2 K w0) w) := by
  have gP := PSq.good base g most
  have H := Lib.hid h
  obtain ⟨⟨⟨T, S, N, A, B, C⟩, b⟩, hx⟩ : ∃ x, getT L p = x := ⟨_, rfl⟩
  have HX := Lib.hid hx
  unfold secF at hs
  rw [hx] at hs
  simp only at hs
  clear h hx
  by_cases hb : b = true ∧ T = 3
  · obtain ⟨rfl, rfl⟩ := hb
    rw [if_pos ⟨rfl, rfl⟩] at hs
    injection hs with e1 e2
    subst e1 e2
    go_enter Try.func41, Try.ntmps41
    go_wp2_with fail
    refine (H.out.getP g2 p HX.out).mono ?_
    rintro e w1 ⟨rfl, h1, hb1⟩
    rw [show ((⟨3, S, N, A, B, C⟩, true) : Tm × Bool).1.v = .agg #[.int .i64 3, .string S, .int .u64 N, .int .i64 A, .int .i64 B, .int .i64 C] from rfl]
    have HB := Lib.hid (hb1.alloc hb1.size (.cells #[.int .i64 3, .string S, .int .u64 N, .int .i64 A, .int .i64 B, .int .i64 C] 48))
    clear h1 hb1 HX
    go_wp2_with fail
    go_ret2
    exact ⟨rfl, H.out.below gP g2 HB.out, HB.out⟩
  · rw [if_neg hb] at hs
    injection hs with e1 e2
    subst e1 e2
    by_cases hb1 : b = true
    · subst hb1
      have hT : (T != 3) = true := by simp at hb; simpa using hb
      have hT' : (T == 3) = false := by simpa using hT
      clear hb
      go_enter Try.func41, Try.ntmps41
      go_wp2_with fail
      refine (H.out.getP g2 p HX.out).mono ?_
      rintro e w1 ⟨rfl, h1, hb1⟩
      rw [show ((⟨T, S, N, A, B, C⟩, true) : Tm × Bool).1.v = .agg #[.int .i64 T, .string S, .int .u64 N, .int .i64 A, .int .i64 B, .int .i64 C] from rfl]
      have HB := Lib.hid (hb1.alloc hb1.size (.cells #[.int .i64 T, .string S, .int .u64 N, .int .i64 A, .int .i64 B, .int .i64 C] 48))
      clear h1 hb1 HX
      go_wp2_with fail
      go_ret2
      exact ⟨rfl, H.out.below gP g2 HB.out, HB.out⟩
    · obtain rfl : b = false := by simpa using hb1
      clear hb hb1
      go_enter Try.func41, Try.ntmps41
      go_wp2_with fail
      refine (H.out.getP g2 p HX.out).mono ?_
      rintro e w1 ⟨rfl, h1, hb1⟩
      rw [show ((⟨T, S, N, A, B, C⟩, false) : Tm × Bool).1.v = .agg #[.int .i64 T, .string S, .int .u64 N, .int .i64 A, .int .i64 B, .int .i64 C] from rfl]
      have HB := Lib.hid (hb1.alloc hb1.size (.cells #[.int .i64 T, .string S, .int .u64 N, .int .i64 A, .int .i64 B, .int .i64 C] 48))
      clear h1 hb1 HX
      go_wp2_with fail
      go_ret2
      exact ⟨rfl, H.out.below gP g2 HB.out, HB.out⟩


set_option maxHeartbeats 1000000 in
theorem inOrder_any (x y : Int) (w : World) :
    Calls Try.prog 42 #[.int .i64 x, .int .i64 y] w fun e w' => e = .returned (.agg #[.int .i64 (if x ≤ y then x else y), .int .i64 (if x ≤ y then y else x)]) ∧ Below w.heap.size w w' := by
  by_cases h : x ≤ y
  · rw [if_pos h, if_pos h]
    have h1 : decide (y < x) = false := by simp; omega
    clear h
    go_enter Try.func42, Try.ntmps42
    go_wp2_with fail
    exact bodyPost_ret (v := .agg #[.int .i64 x, .int .i64 y]) (by simp [results, Try.results42, go_sem]) rfl ⟨rfl, ((Below.refl _ _).alloc (Nat.le_refl _) _).alloc (by simp) _⟩
  · rw [if_neg h, if_neg h]
    have h1 : decide (y < x) = true := by simp; omega
    clear h
    go_enter Try.func42, Try.ntmps42
    go_wp2_with fail
    exact bodyPost_ret (v := .agg #[.int .i64 y, .int .i64 x]) (by simp [results, Try.results42, go_sem]) rfl ⟨rfl, ((Below.refl _ _).alloc (Nat.le_refl _) _).alloc (by simp) _⟩

set_option maxHeartbeats 1000000 in
theorem Pair.agreeP {L' : List Tm} {a b x p : Int} (g2 : Good base Q2) (h : Pair base (PSq base g most) Q2 L L2 K w0 w) (hx : I64 x) (hf : agreeF L most x p = (a, b, L')) :
    Calls Try.prog 22 #[.pointer (some ⟨g, 0, none⟩), .int .i64 x, .int .i64 p] w fun e w' => e = .returned (.tuple #[.int .i64 a, .int .i64 b]) ∧ Pair base (PSq base g most) Q2 L' L2 K w0 w' ∧ ∀ k, K k → w'.heap[k]? = w.heap[k]? := by
  have gP := PSq.good base g most
  obtain ⟨s, ok, hs⟩ : ∃ s ok, secF L p = (s, ok) := ⟨_, _, rfl⟩
  have hfit := h.facts
  have hKl : ∀ k, K k → k < w.heap.size := by obtain ⟨F1, F2, _, _, _, h4, _⟩ := h; exact fun k hk => (h4 k hk).2.2
  have HKl := Lib.hid hKl
  unfold agreeF at hf
  rw [hs] at hf
  simp only at hf
  have H := Lib.hid h
  have HS := Lib.hid hs
  cases ok with
  | false =>
    rw [if_neg (by simp)] at hf
    injection hf with e1 e2
    injection e2 with e2 e3
    subst e1 e2 e3
    clear h hs hx hfit hKl
    go_enter Try.func22, Try.ntmps22
    go_wp2_with fail
    refine (H.out.secretOfP g2 p HS.out).mono ?_
    rintro e w1 ⟨rfl, h1, hb1⟩
    have H1 := Lib.hid h1
    have HB := Lib.hid hb1
    clear h1 hb1 H HS
    go_wp2_with fail
    go_ret2
    exact ⟨rfl, H1.out, fun k hk => HB.out.block k (HKl.out k hk)⟩
  | true =>
    rw [if_pos rfl] at hf
    have hsi := sec_in hfit.1 hs
    have hsw : I64 s := i64_small (by omega) (by omega)
    have hlo : I64 (if x ≤ s then x else s) := by split <;> assumption
    have hhi : I64 (if x ≤ s then s else x) := by split <;> assumption
    have HW := Lib.hid (share_wf hlo hhi)
    have HO := inOrder_any x s
    obtain ⟨lo, hl⟩ : ∃ lo, lo = (if x ≤ s then x else s) := ⟨_, rfl⟩
    obtain ⟨hi, hh⟩ : ∃ hi, hi = (if x ≤ s then s else x) := ⟨_, rfl⟩
    rw [← hl, ← hh] at hf HW HO
    have HF := Lib.hid hf
    have HI := Lib.hid HO
    clear h hs hx hfit hKl hsi hsw hlo hhi hl hh hf HO
    go_enter Try.func22, Try.ntmps22
    go_wp2_with fail
    refine (H.out.secretOfP g2 p HS.out).mono ?_
    rintro e w1 ⟨rfl, h1, hb1⟩
    have H1 := Lib.hid h1
    have HB1 := Lib.hid hb1
    clear h1 hb1 H HS
    go_wp2_with fail
    refine (HI.out _).mono ?_
    rintro e w2 ⟨rfl, hb2⟩
    have HB2 := Lib.hid (hb2.alloc hb2.size (.cells #[.int .i64 lo, .int .i64 hi] 24))
    have H2 := Lib.hid (H1.out.below gP g2 HB2.out)
    clear hb2 H1 HI
    go_wp2_with fail
    refine (H2.out.putP g2 (shareT lo hi) HW.out HF.out).mono ?_
    rintro e w3 ⟨rfl, h3, hk3⟩
    have H3 := Lib.hid h3
    have HK3 := Lib.hid hk3
    clear h3 hk3 H2 HF
    go_wp2_with fail
    go_ret2
    refine ⟨rfl, H3.out, fun k hk => ?_⟩
    rw [HK3.out k hk, HB2.out.block k (Nat.lt_of_lt_of_le (HKl.out k hk) HB1.out.size), HB1.out.block k (HKl.out k hk)]


theorem may_share {n : Nat} {x y : Int} (h : (shareT x y).may n = true) : 1 ≤ x ∧ x ≤ y ∧ y ≤ (n : Int) := by
  have h1 := (mayP_iff n (shareT x y)).2 (by simpa [Tm.may] using h)
  obtain ⟨_, _, _, _, h2, h3⟩ := h1
  have a := h3 0 (by simp [shareT, many])
  have b := h3 1 (by simp [shareT, many])
  simp [partAt, shareT] at a b h2
  omega
theorem agree_out {L : List Tm} {most x p : Int} (h : x < 1 ∨ (L.length : Int) < x) : agreeF L most x p = (0, 1, L) := by
  unfold agreeF
  split
  · unfold putF
    rw [if_neg]
    intro hm
    have := may_share hm
    revert this
    split <;> omega
  · rfl

end
end Go.Proofs.Ytdhfnbajmjmlbaa
