/- The walks of PutText and GetText, and of the document's, for every text of at most a million bytes and every place and bound. -/
import Derived.Test.YtifpahjlmnimnaaVintC
namespace Go.Proofs.Ytifpahjlmnimnaa
open Go.RowKit
set_option linter.unusedVariables false

def ptS (s : ByteArray) : ByteArray := putS s.size ++ s
theorem putS_size (n : Nat) (h : (n : Int) ≤ 18446744073709551615) : (putS n).size ≤ 10 := by
  have := put_le n h
  simpa [putS, ByteArray.size] using this

set_option maxHeartbeats 400000 in
theorem putText_any (s : ByteArray) (w : World) (hs : s.size ≤ 1000000) :
    Calls Try.prog 68 #[.string s] w fun e w' => e = .returned (.string (ptS s)) ∧ Below w.heap.size w w' := by
  have H := Lib.hid (put_any s.size)
  have hp := putS_size s.size (by omega)
  go_enter Try.func68, Try.ntmps68
  go_wp2_with (go_at_call 29; go_must (refine (H.out _ (by omega)).mono ?_); rintro e w' ⟨rfl, hb⟩)
  go_ret
  exact ⟨rfl, hb⟩

set_option maxHeartbeats 400000 in
theorem rputText_any (s : ByteArray) (w : World) (hs : s.size ≤ 1000000) :
    Calls Try.prog 32 #[.string s] w fun e w' => e = .returned (.string (ptS s)) ∧ Below w.heap.size w w' := by
  have H := Lib.hid (rput_any s.size)
  have hp := putS_size s.size (by omega)
  go_enter Try.func32, Try.ntmps32
  go_wp2_with (go_at_call 31; go_must (refine (H.out _ (by omega)).mono ?_); rintro e w' ⟨rfl, hb⟩)
  go_ret
  exact ⟨rfl, hb⟩

set_option maxHeartbeats 400000 in
theorem clone_any (s : ByteArray) (w : World) (hs : s.size ≤ 1000000) :
    Calls Try.prog 71 #[.string s] w fun e w' => e = .returned (.string s) ∧ Below w.heap.size w w' := by
  go_enter Try.func71, Try.ntmps71
  go_wp2_with (go_at_call 74; go_must (refine (Try.stringslite_Clone _ _ (by omega)).mono ?_); rintro e w' ⟨rfl, hb⟩)
  go_ret
  exact ⟨rfl, hb⟩

def TextPost (s : ByteArray) (a m : Int) (w : World) (e : Ending) (w' : World) : Prop :=
  e = .returned (.tuple #[.string (tS s a m), .int .i64 (tP s a m), .int .i64 (tE s a m)]) ∧ Below w.heap.size w w'
theorem textPost_of {s : ByteArray} {a m : Int} {w w' : World} {x : List UInt8} {y z : Nat} {x' : ByteArray} {y' z' : Int} (h : textA s.data.toList a m = (x, y, z)) (hx : x' = ⟨x.toArray⟩) (hy : y' = y) (hz : z' = z) (hb : Below w.heap.size w w') :
    TextPost s a m w (.returned (.tuple #[.string x', .int .i64 y', .int .i64 z'])) w' := by
  subst hx hy hz
  exact ⟨by simp [tS, tP, tE, h], hb⟩

theorem textA_err {l : List UInt8} {a m : Int} {N P E : Nat} (h : getA l a = (N, P, E)) (hE : E ≠ 0) : textA l a m = ([], 0, E) := by
  unfold textA; simp [h, hE]
theorem textA_big {l : List UInt8} {a m : Int} {N P : Nat} (h : getA l a = (N, P, 0)) (hm : 0 < N ∧ m < (N : Int)) : textA l a m = ([], 0, 4) := by
  unfold textA; simp [h, hm]
theorem textA_short {l : List UInt8} {a m : Int} {N P : Nat} (h : getA l a = (N, P, 0)) (hm : ¬ (0 < N ∧ m < (N : Int))) (hl : l.length - P < N) : textA l a m = ([], 0, 2) := by
  unfold textA; simp only [h]; rw [if_neg (by simp), if_neg hm, if_pos hl]
theorem textA_ok {l : List UInt8} {a m : Int} {N P : Nat} (h : getA l a = (N, P, 0)) (hm : ¬ (0 < N ∧ m < (N : Int))) (hl : ¬ l.length - P < N) : textA l a m = ((l.drop P).take N, P + N, 0) := by
  unfold textA; simp only [h]; rw [if_neg (by simp), if_neg hm, if_neg hl]
theorem getA_bounds (s : ByteArray) (a : Int) {N P E : Nat} (h : getA s.data.toList a = (N, P, E)) : (N : Int) ≤ 18446744073709551615 ∧ P ≤ s.size := by
  unfold getA at h
  split at h
  · simp at h; omega
  · rename_i hc
    have h1 := look_lt (s.data.toList.drop a.toNat) true 0 a.toNat
    rw [h] at h1
    have h2 : s.data.toList.length = s.size := by simp
    rw [h2] at hc
    simp at h1
    omega
theorem get_at {s : ByteArray} {a : Int} {N P E : Nat} (w : World) (hs : s.size ≤ maxLen) (h : getA s.data.toList a = (N, P, E)) :
    Calls Try.prog 21 #[.string s, .int .i64 a] w fun e w' => e = .returned (.tuple #[.int .u64 N, .int .i64 P, .int .i64 E]) ∧ w = w' :=
  (get_any s a w hs).mono fun e w' ⟨he, hw⟩ => ⟨by rw [he]; simp [gN, gP, gE, h], hw⟩
theorem rget_at {s : ByteArray} {a : Int} {N P E : Nat} (w : World) (hs : s.size ≤ maxLen) (h : getA s.data.toList a = (N, P, E)) :
    Calls Try.prog 23 #[.string s, .int .i64 a] w fun e w' => e = .returned (.tuple #[.int .u64 N, .int .i64 P, .int .i64 E]) ∧ w = w' :=
  (rget_any s a w hs).mono fun e w' ⟨he, hw⟩ => ⟨by rw [he]; simp [gN, gP, gE, h], hw⟩
theorem extract_eq (s : ByteArray) (P N : Nat) : s.extract P (P + N) = ⟨((s.data.toList.drop P).take N).toArray⟩ := by
  apply ByteArray.ext
  apply Array.ext'
  simp [List.take_drop]

set_option maxHeartbeats 1000000 in
theorem text_err (s : ByteArray) (a m : Int) (w : World) (hs : s.size ≤ 1000000) {N P E : Nat} (HG : Hid (getA s.data.toList a = (N, P, E))) (hE : ((E : Int) != 0) = true) :
    Calls Try.prog 69 #[.string s, .int .i64 a, .int .i64 m] w (TextPost s a m w) := by
  have HT := Lib.hid (textA_err (m := m) HG.out (by simpa using hE))
  go_enter Try.func69, Try.ntmps69
  go_wp2_with (go_at_call 21; go_must (refine (get_at _ (by unfold maxLen; omega) HG.out).mono ?_); rintro e w' ⟨rfl, rfl⟩)
  go_ret3
  exact textPost_of HT.out rfl rfl rfl (Below.refl _ _)

set_option maxHeartbeats 1000000 in
theorem text_big (s : ByteArray) (a m : Int) (w : World) (hs : s.size ≤ 1000000) {N P : Nat} (HG : Hid (getA s.data.toList a = (N, P, 0))) (hN : (N : Int) ≤ 18446744073709551615) (hm1 : -9223372036854775808 ≤ m) (hm2 : m ≤ 9223372036854775807) (h0 : 0 < N) (h1 : m < (N : Int)) :
    Calls Try.prog 69 #[.string s, .int .i64 a, .int .i64 m] w (TextPost s a m w) := by
  have HT := Lib.hid (textA_big HG.out ⟨h0, h1⟩)
  have h0' : (0 : Int) < N := by omega
  have e0 : decide ((0 : Int) < N) = true := by simp; omega
  by_cases hm : m < 0
  · have hmx : max m 0 = 0 := by omega
    go_enter Try.func69, Try.ntmps69
    go_wp2_with (go_at_call 21; go_must (refine (get_at _ (by unfold maxLen; omega) HG.out).mono ?_); rintro e w' ⟨rfl, rfl⟩)
    go_ret3
    exact textPost_of HT.out rfl rfl rfl (Below.refl _ _)
  · have hmx : max m 0 = m := by omega
    have hm' : 0 ≤ m := by omega
    have e1 : decide (m < 0) = false := by simp; omega
    go_enter Try.func69, Try.ntmps69
    go_wp2_with (go_at_call 21; go_must (refine (get_at _ (by unfold maxLen; omega) HG.out).mono ?_); rintro e w' ⟨rfl, rfl⟩)
    go_ret3
    exact textPost_of HT.out rfl rfl rfl (Below.refl _ _)

set_option maxHeartbeats 1000000 in
theorem text_short (s : ByteArray) (a m : Int) (w : World) (hs : s.size ≤ 1000000) {N P : Nat} (HG : Hid (getA s.data.toList a = (N, P, 0))) (hN : (N : Int) ≤ 18446744073709551615) (hP : P ≤ s.size) (hm1 : -9223372036854775808 ≤ m) (hm2 : m ≤ 9223372036854775807) (h0 : ¬ (0 < N ∧ m < (N : Int))) (h1 : s.size - P < N) :
    Calls Try.prog 69 #[.string s, .int .i64 a, .int .i64 m] w (TextPost s a m w) := by
  have HT := Lib.hid (textA_short HG.out h0 (by simpa using h1))
  have h3 : (0 : Int) < N := by omega
  have e0 : decide ((0 : Int) < N) = true := by simp; omega
  have hmx : max m 0 = m := by omega
  have hm' : 0 ≤ m := by omega
  have e1 : decide (m < 0) = false := by simp; omega
  have e2 : ¬ m < (N : Int) := by omega
  have e3 : decide (m < (N : Int)) = false := by simp; omega
  have e4 : (s.size : Int) - P < N := by omega
  go_enter Try.func69, Try.ntmps69
  go_wp2_with (go_at_call 21; go_must (refine (get_at _ (by unfold maxLen; omega) HG.out).mono ?_); rintro e w' ⟨rfl, rfl⟩)
  go_ret3
  exact textPost_of HT.out rfl rfl rfl (Below.refl _ _)

set_option maxHeartbeats 1000000 in
theorem text_ok (s : ByteArray) (a m : Int) (w : World) (hs : s.size ≤ 1000000) {N P : Nat} (HG : Hid (getA s.data.toList a = (N, P, 0))) (hP : P ≤ s.size) (hm1 : -9223372036854775808 ≤ m) (hm2 : m ≤ 9223372036854775807) (h0 : 0 < N → (N : Int) ≤ m) (h1 : N ≤ s.size - P) :
    Calls Try.prog 69 #[.string s, .int .i64 a, .int .i64 m] w (TextPost s a m w) := by
  have HT := Lib.hid (textA_ok (m := m) HG.out (by omega) (by simp; omega))
  have HX : Hid ((s.extract P (P + N)).size ≤ 1000000) := Lib.hid (by simp only [ByteArray.size_extract]; omega)
  have e4 : (N : Int) ≤ (s.size : Int) - P := by omega
  by_cases hz : N = 0
  · subst hz
    by_cases hm : m < 0
    · have hmx : max m 0 = 0 := by omega
      go_enter Try.func69, Try.ntmps69
      go_wp2_with (first | (go_at_call 21; go_must (refine (get_at _ (by unfold maxLen; omega) HG.out).mono ?_); rintro e w' ⟨rfl, rfl⟩) | (go_at_call 71; go_must (refine (clone_any _ _ (by decide)).mono ?_); rintro e w' ⟨rfl, hb⟩))
      go_ret3
      exact textPost_of HT.out rfl (by simp) rfl hb
    · have hmx : max m 0 = m := by omega
      have hm' : 0 ≤ m := by omega
      have e1 : decide (m < 0) = false := by simp; omega
      go_enter Try.func69, Try.ntmps69
      go_wp2_with (first | (go_at_call 21; go_must (refine (get_at _ (by unfold maxLen; omega) HG.out).mono ?_); rintro e w' ⟨rfl, rfl⟩) | (go_at_call 71; go_must (refine (clone_any _ _ (by decide)).mono ?_); rintro e w' ⟨rfl, hb⟩))
      go_ret3
      exact textPost_of HT.out rfl (by simp) rfl hb
  · have h3 : (0 : Int) < N := by omega
    have e0 : decide ((0 : Int) < N) = true := by simp; omega
    have h0' : (N : Int) ≤ m := h0 (by omega)
    clear h0
    have hmx : max m 0 = m := by omega
    have hm' : 0 ≤ m := by omega
    have e1 : decide (m < 0) = false := by simp; omega
    have e3 : decide (m < (N : Int)) = false := by simp; omega
    clear hz
    go_enter Try.func69, Try.ntmps69
    go_wp2_with (first | (go_at_call 21; go_must (refine (get_at _ (by unfold maxLen; omega) HG.out).mono ?_); rintro e w' ⟨rfl, rfl⟩) | (go_at_call 71; go_must (refine (clone_any _ _ HX.out).mono ?_); rintro e w' ⟨rfl, hb⟩))
    go_ret3
    exact textPost_of HT.out (extract_eq _ _ _) (by simp) rfl hb

theorem text_any (s : ByteArray) (a m : Int) (w : World) (hs : s.size ≤ 1000000) (hm1 : -9223372036854775808 ≤ m) (hm2 : m ≤ 9223372036854775807) :
    Calls Try.prog 69 #[.string s, .int .i64 a, .int .i64 m] w (TextPost s a m w) := by
  obtain ⟨N, P, E, h⟩ : ∃ N P E, getA s.data.toList a = (N, P, E) := ⟨_, _, _, rfl⟩
  obtain ⟨b1, b2⟩ := getA_bounds s a h
  by_cases hE : E = 0
  · subst hE
    by_cases c1 : 0 < N ∧ m < (N : Int)
    · exact text_big s a m w hs (Lib.hid h) b1 hm1 hm2 c1.1 c1.2
    · by_cases c2 : s.size - P < N
      · exact text_short s a m w hs (Lib.hid h) b1 b2 hm1 hm2 c1 c2
      · exact text_ok s a m w hs (Lib.hid h) b2 hm1 hm2 (by omega) (by omega)
  · exact text_err s a m w hs (Lib.hid h) (by simpa using hE)

set_option maxHeartbeats 1000000 in
theorem rtext_err (s : ByteArray) (a m : Int) (w : World) (hs : s.size ≤ 1000000) {N P E : Nat} (HG : Hid (getA s.data.toList a = (N, P, E))) (hE : ((E : Int) != 0) = true) :
    Calls Try.prog 37 #[.string s, .int .i64 a, .int .i64 m] w (TextPost s a m w) := by
  have HT := Lib.hid (textA_err (m := m) HG.out (by simpa using hE))
  go_enter Try.func37, Try.ntmps37
  go_wp2_with (go_at_call 23; go_must (refine (rget_at _ (by unfold maxLen; omega) HG.out).mono ?_); rintro e w' ⟨rfl, rfl⟩)
  go_ret3
  exact textPost_of HT.out rfl rfl rfl (Below.refl _ _)

set_option maxHeartbeats 1000000 in
theorem rtext_big (s : ByteArray) (a m : Int) (w : World) (hs : s.size ≤ 1000000) {N P : Nat} (HG : Hid (getA s.data.toList a = (N, P, 0))) (hN : (N : Int) ≤ 18446744073709551615) (hm1 : -9223372036854775808 ≤ m) (hm2 : m ≤ 9223372036854775807) (h0 : 0 < N) (h1 : m < (N : Int)) :
    Calls Try.prog 37 #[.string s, .int .i64 a, .int .i64 m] w (TextPost s a m w) := by
  have HT := Lib.hid (textA_big HG.out ⟨h0, h1⟩)
  have h0' : (0 : Int) < N := by omega
  have e0 : decide ((0 : Int) < N) = true := by simp; omega
  by_cases hm : m < 0
  · have hmx : max m 0 = 0 := by omega
    go_enter Try.func37, Try.ntmps37
    go_wp2_with (go_at_call 23; go_must (refine (rget_at _ (by unfold maxLen; omega) HG.out).mono ?_); rintro e w' ⟨rfl, rfl⟩)
    go_ret3
    exact textPost_of HT.out rfl rfl rfl (Below.refl _ _)
  · have hmx : max m 0 = m := by omega
    have hm' : 0 ≤ m := by omega
    have e1 : decide (m < 0) = false := by simp; omega
    go_enter Try.func37, Try.ntmps37
    go_wp2_with (go_at_call 23; go_must (refine (rget_at _ (by unfold maxLen; omega) HG.out).mono ?_); rintro e w' ⟨rfl, rfl⟩)
    go_ret3
    exact textPost_of HT.out rfl rfl rfl (Below.refl _ _)

set_option maxHeartbeats 1000000 in
theorem rtext_short (s : ByteArray) (a m : Int) (w : World) (hs : s.size ≤ 1000000) {N P : Nat} (HG : Hid (getA s.data.toList a = (N, P, 0))) (hN : (N : Int) ≤ 18446744073709551615) (hP : P ≤ s.size) (hm1 : -9223372036854775808 ≤ m) (hm2 : m ≤ 9223372036854775807) (h0 : ¬ (0 < N ∧ m < (N : Int))) (h1 : s.size - P < N) :
    Calls Try.prog 37 #[.string s, .int .i64 a, .int .i64 m] w (TextPost s a m w) := by
  have HT := Lib.hid (textA_short HG.out h0 (by simpa using h1))
  have h3 : (0 : Int) < N := by omega
  have e0 : decide ((0 : Int) < N) = true := by simp; omega
  have hmx : max m 0 = m := by omega
  have hm' : 0 ≤ m := by omega
  have e1 : decide (m < 0) = false := by simp; omega
  have e2 : ¬ m < (N : Int) := by omega
  have e3 : decide (m < (N : Int)) = false := by simp; omega
  have e4 : (s.size : Int) - P < N := by omega
  go_enter Try.func37, Try.ntmps37
  go_wp2_with (go_at_call 23; go_must (refine (rget_at _ (by unfold maxLen; omega) HG.out).mono ?_); rintro e w' ⟨rfl, rfl⟩)
  go_ret3
  exact textPost_of HT.out rfl rfl rfl (Below.refl _ _)

set_option maxHeartbeats 1000000 in
theorem rtext_ok (s : ByteArray) (a m : Int) (w : World) (hs : s.size ≤ 1000000) {N P : Nat} (HG : Hid (getA s.data.toList a = (N, P, 0))) (hP : P ≤ s.size) (hm1 : -9223372036854775808 ≤ m) (hm2 : m ≤ 9223372036854775807) (h0 : 0 < N → (N : Int) ≤ m) (h1 : N ≤ s.size - P) :
    Calls Try.prog 37 #[.string s, .int .i64 a, .int .i64 m] w (TextPost s a m w) := by
  have HT := Lib.hid (textA_ok (m := m) HG.out (by omega) (by simp; omega))
  have HX : Hid ((s.extract P (P + N)).size ≤ 1000000) := Lib.hid (by simp only [ByteArray.size_extract]; omega)
  have e4 : (N : Int) ≤ (s.size : Int) - P := by omega
  by_cases hz : N = 0
  · subst hz
    by_cases hm : m < 0
    · have hmx : max m 0 = 0 := by omega
      go_enter Try.func37, Try.ntmps37
      go_wp2_with (go_at_call 23; go_must (refine (rget_at _ (by unfold maxLen; omega) HG.out).mono ?_); rintro e w' ⟨rfl, rfl⟩)
      go_ret3
      exact textPost_of HT.out rfl (by simp) rfl (Below.refl _ _)
    · have hmx : max m 0 = m := by omega
      have hm' : 0 ≤ m := by omega
      have e1 : decide (m < 0) = false := by simp; omega
      go_enter Try.func37, Try.ntmps37
      go_wp2_with (go_at_call 23; go_must (refine (rget_at _ (by unfold maxLen; omega) HG.out).mono ?_); rintro e w' ⟨rfl, rfl⟩)
      go_ret3
      exact textPost_of HT.out rfl (by simp) rfl (Below.refl _ _)
  · have h3 : (0 : Int) < N := by omega
    have e0 : decide ((0 : Int) < N) = true := by simp; omega
    have h0' : (N : Int) ≤ m := h0 (by omega)
    clear h0
    have hmx : max m 0 = m := by omega
    have hm' : 0 ≤ m := by omega
    have e1 : decide (m < 0) = false := by simp; omega
    have e3 : decide (m < (N : Int)) = false := by simp; omega
    clear hz
    go_enter Try.func37, Try.ntmps37
    go_wp2_with (go_at_call 23; go_must (refine (rget_at _ (by unfold maxLen; omega) HG.out).mono ?_); rintro e w' ⟨rfl, rfl⟩)
    go_ret3
    exact textPost_of HT.out (extract_eq _ _ _) (by simp) rfl (Below.refl _ _)

theorem rtext_any (s : ByteArray) (a m : Int) (w : World) (hs : s.size ≤ 1000000) (hm1 : -9223372036854775808 ≤ m) (hm2 : m ≤ 9223372036854775807) :
    Calls Try.prog 37 #[.string s, .int .i64 a, .int .i64 m] w (TextPost s a m w) := by
  obtain ⟨N, P, E, h⟩ : ∃ N P E, getA s.data.toList a = (N, P, E) := ⟨_, _, _, rfl⟩
  obtain ⟨b1, b2⟩ := getA_bounds s a h
  by_cases hE : E = 0
  · subst hE
    by_cases c1 : 0 < N ∧ m < (N : Int)
    · exact rtext_big s a m w hs (Lib.hid h) b1 hm1 hm2 c1.1 c1.2
    · by_cases c2 : s.size - P < N
      · exact rtext_short s a m w hs (Lib.hid h) b1 b2 hm1 hm2 c1 c2
      · exact rtext_ok s a m w hs (Lib.hid h) b2 hm1 hm2 (by omega) (by omega)
  · exact rtext_err s a m w hs (Lib.hid h) (by simpa using hE)

end Go.Proofs.Ytifpahjlmnimnaa
