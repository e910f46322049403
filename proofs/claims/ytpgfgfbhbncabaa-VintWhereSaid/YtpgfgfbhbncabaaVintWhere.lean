/- The law VintWhere returns true for every three texts and every place, and its arguments read as they did. No conditions. -/
import Derived.Test.YtpgfgfbhbncabaaRows
import Derived.WalkKit
import Derived.ProofKit
import Derived.OpenShut
import Derived.ShutString
import Derived.ChangeOld
import Derived.Below
import Derived.Lib.SmallJoins
import Derived.Test.YtpgfgfbhbncabaaMathE
import Derived.Test.YtpgfgfbhbncabaaFixed
namespace Go.Proofs.Ytpgfgfbhbncabaa.vintWhere
open Go.ChangeShapes Go.WideShapes Go.ChangeAt Go.RowKit
open Go.ChangeMaps (open_string shut_string)
open Go.Joins
set_option linter.unusedVariables false

theorem own : ownKnob Try.prog.godebug = none := by kernel_rfl
theorem laidOut : laidOutB Try.prog = true := by kernel_rfl

theorem app_list (a b : ByteArray) : (a ++ b).data.toList = a.data.toList ++ b.data.toList := by
  simp [ByteArray.data_append]

theorem text_is {s : ByteArray} {a m : Int} {X : ByteArray} {y z : Int} {x : List UInt8} {P E : Nat} (w : World) (hs : s.size ≤ 1000000) (hm1 : -9223372036854775808 ≤ m) (hm2 : m ≤ 9223372036854775807) (h : textA s.data.toList a m = (x, P, E)) (hx : (⟨x.toArray⟩ : ByteArray) = X) (hy : (P : Int) = y) (hz : (E : Int) = z) :
    Calls Try.prog 16 #[.string s, .int .i64 a, .int .i64 m] w fun e w' => e = .returned (.tuple #[.string X, .int .i64 y, .int .i64 z]) ∧ Below w.heap.size w w' := by
  subst hx hy hz
  exact (text_any s a m w hs hm1 hm2).mono fun e w' ⟨he, hw⟩ => ⟨by rw [he]; simp [tS, tP, tE, h], hw⟩

set_option maxHeartbeats 4000000 in
set_option maxRecDepth 100000 in
theorem err_two (A0 A1 A2 p s t : ByteArray) (c k : Nat) (hc : (c : Int) ≤ 255) (z0 : A0.size ≤ maxLen) (z1 : A1.size ≤ maxLen) (z2 : A2.size ≤ maxLen)
    (m0 : min (A0.size : Int) 60 = p.size) (m1 : min (A1.size : Int) 60 = s.size) (m2 : min (A2.size : Int) 60 = t.size)
    (u0 : p.size ≤ A0.size) (u1 : s.size ≤ A1.size) (u2 : t.size ≤ A2.size) (v0 : p.size ≤ 60) (v1 : s.size ≤ 60) (v2 : t.size ≤ 60)
    (x0 : A0.extract 0 p.size = p) (x1 : A1.extract 0 s.size = s) (x2 : A2.extract 0 t.size = t)
    (hk : (c : Int) % ((s.size : Int) + 1) = (k : Int)) (hk2 : k ≤ s.size) (G1 : Hid (getA s.data.toList (k : Int) = (0, 0, 2))) (G2 : Hid (getA (p ++ s).data.toList ((p.size : Int) + (k : Int)) = (0, 0, 2))) (U V G : Nat) (G3 : Hid (getA (s ++ t).data.toList (k : Int) = (U, V, G))) (G4 : Hid (textA s.data.toList (k : Int) 100 = ([], 0, 2))) (G5 : Hid (textA (p ++ s).data.toList ((p.size : Int) + (k : Int)) 100 = ([], 0, 2))) (w : World) :
    Calls Try.prog 8 #[.agg #[.string A0, .string A1, .string A2], .int .u8 c] w fun e w' => e = .returned (.bool true) ∧ Below w.heap.size w w' := by
  unfold maxLen at z0 z1 z2
  have S1 := Lib.hid (show s.size ≤ 1000000 from by omega)
  have S2 := Lib.hid (show (p ++ s).size ≤ 1000000 from by rw [ByteArray.size_append]; omega)
  have S3 := Lib.hid (show (s ++ t).size ≤ 1000000 from by rw [ByteArray.size_append]; omega)
  go_enter Try.func8, Try.ntmps8
  go_wp2_with fail
  refine (get_is _ S1.out G1.out rfl rfl rfl).mono ?_
  rintro e w' ⟨rfl, rfl⟩
  go_wp2_with fail
  refine (get_is _ S2.out G2.out rfl rfl rfl).mono ?_
  rintro e w' ⟨rfl, rfl⟩
  go_wp2_with fail
  refine (get_is _ S3.out G3.out rfl rfl rfl).mono ?_
  rintro e w' ⟨rfl, rfl⟩
  go_wp2_with fail
  refine (text_is _ S1.out (by decide) (by decide) G4.out rfl rfl rfl).mono ?_
  rintro e w1 ⟨rfl, hb1⟩
  go_wp2_with fail
  refine (text_is _ S2.out (by decide) (by decide) G5.out rfl rfl rfl).mono ?_
  rintro e w2 ⟨rfl, hb2⟩
  have hb := hb1.trans (hb2.mono hb1.size)
  clear hb1 hb2
  go_wp2_with fail
  refine (fixed_any _).mono ?_
  rintro e w3 ⟨rfl, hb3⟩
  have hb4 := ((Below.refl w.heap.size w).alloc (Nat.le_refl _) (.cells #[.string A0, .string A1, .string A2] 37)).trans ((hb.mono (by simp)).trans (hb3.mono (by have := hb.size; simp at this; omega)))
  clear hb hb3
  go_wp2
  go_ret
  exact ⟨rfl, hb4⟩

set_option maxHeartbeats 4000000 in
set_option maxRecDepth 100000 in
theorem err_other (A0 A1 A2 p s t : ByteArray) (c k : Nat) (hc : (c : Int) ≤ 255) (z0 : A0.size ≤ maxLen) (z1 : A1.size ≤ maxLen) (z2 : A2.size ≤ maxLen)
    (m0 : min (A0.size : Int) 60 = p.size) (m1 : min (A1.size : Int) 60 = s.size) (m2 : min (A2.size : Int) 60 = t.size)
    (u0 : p.size ≤ A0.size) (u1 : s.size ≤ A1.size) (u2 : t.size ≤ A2.size) (v0 : p.size ≤ 60) (v1 : s.size ≤ 60) (v2 : t.size ≤ 60)
    (x0 : A0.extract 0 p.size = p) (x1 : A1.extract 0 s.size = s) (x2 : A2.extract 0 t.size = t)
    (hk : (c : Int) % ((s.size : Int) + 1) = (k : Int)) (hk2 : k ≤ s.size) (E : Nat) (G1 : Hid (getA s.data.toList (k : Int) = (0, 0, E))) (G2 : Hid (getA (p ++ s).data.toList ((p.size : Int) + (k : Int)) = (0, 0, E))) (G4 : Hid (textA s.data.toList (k : Int) 100 = ([], 0, E))) (G5 : Hid (textA (p ++ s).data.toList ((p.size : Int) + (k : Int)) 100 = ([], 0, E))) (G3 : Hid (getA (s ++ t).data.toList (k : Int) = (0, 0, E))) (hE : ((E : Int) != 0) = true) (hE2 : ((E : Int) == 2) = false) (w : World) :
    Calls Try.prog 8 #[.agg #[.string A0, .string A1, .string A2], .int .u8 c] w fun e w' => e = .returned (.bool true) ∧ Below w.heap.size w w' := by
  unfold maxLen at z0 z1 z2
  have S1 := Lib.hid (show s.size ≤ 1000000 from by omega)
  have S2 := Lib.hid (show (p ++ s).size ≤ 1000000 from by rw [ByteArray.size_append]; omega)
  have S3 := Lib.hid (show (s ++ t).size ≤ 1000000 from by rw [ByteArray.size_append]; omega)
  go_enter Try.func8, Try.ntmps8
  go_wp2_with fail
  refine (get_is _ S1.out G1.out rfl rfl rfl).mono ?_
  rintro e w' ⟨rfl, rfl⟩
  go_wp2_with fail
  refine (get_is _ S2.out G2.out rfl rfl rfl).mono ?_
  rintro e w' ⟨rfl, rfl⟩
  go_wp2_with fail
  refine (get_is _ S3.out G3.out rfl rfl rfl).mono ?_
  rintro e w' ⟨rfl, rfl⟩
  go_wp2_with fail
  refine (text_is _ S1.out (by decide) (by decide) G4.out rfl rfl rfl).mono ?_
  rintro e w1 ⟨rfl, hb1⟩
  go_wp2_with fail
  refine (text_is _ S2.out (by decide) (by decide) G5.out rfl rfl rfl).mono ?_
  rintro e w2 ⟨rfl, hb2⟩
  have hb := hb1.trans (hb2.mono hb1.size)
  clear hb1 hb2
  go_wp2_with fail
  refine (fixed_any _).mono ?_
  rintro e w3 ⟨rfl, hb3⟩
  have hb4 := ((Below.refl w.heap.size w).alloc (Nat.le_refl _) (.cells #[.string A0, .string A1, .string A2] 37)).trans ((hb.mono (by simp)).trans (hb3.mono (by have := hb.size; simp at this; omega)))
  clear hb hb3
  go_wp2
  go_ret
  exact ⟨rfl, hb4⟩

set_option maxHeartbeats 4000000 in
set_option maxRecDepth 100000 in
theorem ok_bad (A0 A1 A2 p s t : ByteArray) (c k : Nat) (hc : (c : Int) ≤ 255) (z0 : A0.size ≤ maxLen) (z1 : A1.size ≤ maxLen) (z2 : A2.size ≤ maxLen)
    (m0 : min (A0.size : Int) 60 = p.size) (m1 : min (A1.size : Int) 60 = s.size) (m2 : min (A2.size : Int) 60 = t.size)
    (u0 : p.size ≤ A0.size) (u1 : s.size ≤ A1.size) (u2 : t.size ≤ A2.size) (v0 : p.size ≤ 60) (v1 : s.size ≤ 60) (v2 : t.size ≤ 60)
    (x0 : A0.extract 0 p.size = p) (x1 : A1.extract 0 s.size = s) (x2 : A2.extract 0 t.size = t)
    (hk : (c : Int) % ((s.size : Int) + 1) = (k : Int)) (hk2 : k ≤ s.size) (N P h i : Nat) (x : List UInt8) (G1 : Hid (getA s.data.toList (k : Int) = (N, P, 0))) (G2 : Hid (getA (p ++ s).data.toList ((p.size : Int) + (k : Int)) = (N, P + p.size, 0))) (G3 : Hid (getA (s ++ t).data.toList (k : Int) = (N, P, 0))) (hP : P ≤ s.size) (hi : i ≤ s.size) (G4 : Hid (textA s.data.toList (k : Int) 100 = (x, i, h))) (G5 : Hid (textA (p ++ s).data.toList ((p.size : Int) + (k : Int)) 100 = (x, 0, h))) (hh : ((h : Int) != 0) = true) (w : World) :
    Calls Try.prog 8 #[.agg #[.string A0, .string A1, .string A2], .int .u8 c] w fun e w' => e = .returned (.bool true) ∧ Below w.heap.size w w' := by
  unfold maxLen at z0 z1 z2
  have S1 := Lib.hid (show s.size ≤ 1000000 from by omega)
  have S2 := Lib.hid (show (p ++ s).size ≤ 1000000 from by rw [ByteArray.size_append]; omega)
  have S3 := Lib.hid (show (s ++ t).size ≤ 1000000 from by rw [ByteArray.size_append]; omega)
  go_enter Try.func8, Try.ntmps8
  go_wp2_with fail
  refine (get_is _ S1.out G1.out rfl rfl rfl).mono ?_
  rintro e w' ⟨rfl, rfl⟩
  go_wp2_with fail
  refine (get_is _ S2.out G2.out rfl (Int.natCast_add P p.size) rfl).mono ?_
  rintro e w' ⟨rfl, rfl⟩
  go_wp2_with fail
  refine (get_is _ S3.out G3.out rfl rfl rfl).mono ?_
  rintro e w' ⟨rfl, rfl⟩
  go_wp2_with fail
  refine (text_is _ S1.out (by decide) (by decide) G4.out rfl rfl rfl).mono ?_
  rintro e w1 ⟨rfl, hb1⟩
  go_wp2_with fail
  refine (text_is _ S2.out (by decide) (by decide) G5.out rfl rfl rfl).mono ?_
  rintro e w2 ⟨rfl, hb2⟩
  have hb := hb1.trans (hb2.mono hb1.size)
  clear hb1 hb2
  go_wp2_with fail
  refine (fixed_any _).mono ?_
  rintro e w3 ⟨rfl, hb3⟩
  have hb4 := ((Below.refl w.heap.size w).alloc (Nat.le_refl _) (.cells #[.string A0, .string A1, .string A2] 37)).trans ((hb.mono (by simp)).trans (hb3.mono (by have := hb.size; simp at this; omega)))
  clear hb hb3
  go_wp2
  go_ret
  exact ⟨rfl, hb4⟩

set_option maxHeartbeats 4000000 in
set_option maxRecDepth 100000 in
theorem ok_ok (A0 A1 A2 p s t : ByteArray) (c k : Nat) (hc : (c : Int) ≤ 255) (z0 : A0.size ≤ maxLen) (z1 : A1.size ≤ maxLen) (z2 : A2.size ≤ maxLen)
    (m0 : min (A0.size : Int) 60 = p.size) (m1 : min (A1.size : Int) 60 = s.size) (m2 : min (A2.size : Int) 60 = t.size)
    (u0 : p.size ≤ A0.size) (u1 : s.size ≤ A1.size) (u2 : t.size ≤ A2.size) (v0 : p.size ≤ 60) (v1 : s.size ≤ 60) (v2 : t.size ≤ 60)
    (x0 : A0.extract 0 p.size = p) (x1 : A1.extract 0 s.size = s) (x2 : A2.extract 0 t.size = t)
    (hk : (c : Int) % ((s.size : Int) + 1) = (k : Int)) (hk2 : k ≤ s.size) (N P i : Nat) (x : List UInt8) (G1 : Hid (getA s.data.toList (k : Int) = (N, P, 0))) (G2 : Hid (getA (p ++ s).data.toList ((p.size : Int) + (k : Int)) = (N, P + p.size, 0))) (G3 : Hid (getA (s ++ t).data.toList (k : Int) = (N, P, 0))) (hP : P ≤ s.size) (hi : i ≤ s.size) (G4 : Hid (textA s.data.toList (k : Int) 100 = (x, i, 0))) (G5 : Hid (textA (p ++ s).data.toList ((p.size : Int) + (k : Int)) 100 = (x, i + p.size, 0))) (w : World) :
    Calls Try.prog 8 #[.agg #[.string A0, .string A1, .string A2], .int .u8 c] w fun e w' => e = .returned (.bool true) ∧ Below w.heap.size w w' := by
  unfold maxLen at z0 z1 z2
  have S1 := Lib.hid (show s.size ≤ 1000000 from by omega)
  have S2 := Lib.hid (show (p ++ s).size ≤ 1000000 from by rw [ByteArray.size_append]; omega)
  have S3 := Lib.hid (show (s ++ t).size ≤ 1000000 from by rw [ByteArray.size_append]; omega)
  go_enter Try.func8, Try.ntmps8
  go_wp2_with fail
  refine (get_is _ S1.out G1.out rfl rfl rfl).mono ?_
  rintro e w' ⟨rfl, rfl⟩
  go_wp2_with fail
  refine (get_is _ S2.out G2.out rfl (Int.natCast_add P p.size) rfl).mono ?_
  rintro e w' ⟨rfl, rfl⟩
  go_wp2_with fail
  refine (get_is _ S3.out G3.out rfl rfl rfl).mono ?_
  rintro e w' ⟨rfl, rfl⟩
  go_wp2_with fail
  refine (text_is _ S1.out (by decide) (by decide) G4.out rfl rfl rfl).mono ?_
  rintro e w1 ⟨rfl, hb1⟩
  go_wp2_with fail
  refine (text_is _ S2.out (by decide) (by decide) G5.out rfl (Int.natCast_add i p.size) rfl).mono ?_
  rintro e w2 ⟨rfl, hb2⟩
  have hb := hb1.trans (hb2.mono hb1.size)
  clear hb1 hb2
  go_wp2_with fail
  refine (fixed_any _).mono ?_
  rintro e w3 ⟨rfl, hb3⟩
  have hb4 := ((Below.refl w.heap.size w).alloc (Nat.le_refl _) (.cells #[.string A0, .string A1, .string A2] 37)).trans ((hb.mono (by simp)).trans (hb3.mono (by have := hb.size; simp at this; omega)))
  clear hb hb3
  go_wp2
  go_ret
  exact ⟨rfl, hb4⟩

theorem slice_facts (A : ByteArray) (hA : A.size ≤ maxLen) : ∃ p : ByteArray, min (A.size : Int) 60 = p.size ∧ p.size ≤ A.size ∧ p.size ≤ 60 ∧ A.extract 0 p.size = p := by
  by_cases h : A.size ≤ 60
  · exact ⟨A, by omega, Nat.le_refl _, h, by simp⟩
  · have e : (A.extract 0 60).size = 60 := by simp only [ByteArray.size_extract]; omega
    exact ⟨A.extract 0 60, by omega, by omega, by omega, by rw [e]⟩

theorem walk (A0 A1 A2 : ByteArray) (a1 : Int) (w : World) (z0 : A0.size ≤ maxLen) (z1 : A1.size ≤ maxLen) (z2 : A2.size ≤ maxLen) (w1 : (Lit.int .u8 a1).wf = true) :
    Calls Try.prog 8 #[.agg #[.string A0, .string A1, .string A2], .int .u8 a1] w fun e w' => e = .returned (.bool true) ∧ Below w.heap.size w w' := by
  obtain ⟨b1, b2⟩ := bounds_u8 w1
  obtain ⟨c, rfl⟩ := Int.eq_ofNat_of_zero_le b1
  obtain ⟨p, m0, u0, v0, x0⟩ := slice_facts A0 z0
  obtain ⟨s, m1, u1, v1, x1⟩ := slice_facts A1 z1
  obtain ⟨t, m2, u2, v2, x2⟩ := slice_facts A2 z2
  have hk : (c : Int) % ((s.size : Int) + 1) = ((c % (s.size + 1) : Nat) : Int) := by rw [Int.natCast_emod, Int.natCast_add]; rfl
  have hk2 : c % (s.size + 1) ≤ s.size := by have := Nat.mod_lt c (show 0 < s.size + 1 by omega); omega
  generalize c % (s.size + 1) = k at hk hk2
  have ls : s.data.toList.length = s.size := by simp
  have lp : p.data.toList.length = p.size := by simp
  obtain ⟨N, P, E, g1⟩ : ∃ N P E, getA s.data.toList (k : Int) = (N, P, E) := ⟨_, _, _, rfl⟩
  obtain ⟨x, i, h, g4⟩ : ∃ x i h, textA s.data.toList (k : Int) 100 = (x, i, h) := ⟨_, _, _, rfl⟩
  have g2 := getA_shift p.data.toList s.data.toList k (by rw [ls]; exact hk2) g1
  have g5 := textA_shift p.data.toList s.data.toList k 100 (by rw [ls]; exact hk2) g4
  rw [← app_list, lp] at g2 g5
  have hP := (getA_bounds s _ g1).2
  have hi := textA_place s.data.toList (k : Int) 100 g4 (by rw [g1, ls]; exact hP)
  rw [ls] at hi
  by_cases hE : E = 0
  · subst hE
    have g3 := getA_more s.data.toList t.data.toList k (by rw [ls]; exact hk2) g1 (by omega)
    rw [← app_list] at g3
    simp only [if_true] at g2
    by_cases hh : h = 0
    · subst hh
      simp only [if_true] at g5
      exact ok_ok A0 A1 A2 p s t c k b2 z0 z1 z2 m0 m1 m2 u0 u1 u2 v0 v1 v2 x0 x1 x2 hk hk2 N P i x (Lib.hid g1) (Lib.hid g2) (Lib.hid g3) hP hi (Lib.hid g4) (Lib.hid g5) w
    · rw [if_neg hh] at g5
      exact ok_bad A0 A1 A2 p s t c k b2 z0 z1 z2 m0 m1 m2 u0 u1 u2 v0 v1 v2 x0 x1 x2 hk hk2 N P h i x (Lib.hid g1) (Lib.hid g2) (Lib.hid g3) hP hi (Lib.hid g4) (Lib.hid g5) (by simpa using hh) w
  · obtain ⟨rfl, rfl⟩ := getA_err _ _ g1 hE
    rw [if_neg hE] at g2
    have g4' := textA_of_err s.data.toList (k : Int) 100 g1 hE
    have g5' := textA_of_err (p ++ s).data.toList ((p.size : Int) + (k : Int)) 100 g2 hE
    by_cases h2 : E = 2
    · subst h2
      obtain ⟨U, V, G, g3⟩ : ∃ U V G, getA (s ++ t).data.toList (k : Int) = (U, V, G) := ⟨_, _, _, rfl⟩
      exact err_two A0 A1 A2 p s t c k b2 z0 z1 z2 m0 m1 m2 u0 u1 u2 v0 v1 v2 x0 x1 x2 hk hk2 (Lib.hid g1) (Lib.hid g2) U V G (Lib.hid g3) (Lib.hid g4') (Lib.hid g5') w
    · have g3 := getA_more s.data.toList t.data.toList k (by rw [ls]; exact hk2) g1 h2
      rw [← app_list] at g3
      exact err_other A0 A1 A2 p s t c k b2 z0 z1 z2 m0 m1 m2 u0 u1 u2 v0 v1 v2 x0 x1 x2 hk hk2 E (Lib.hid g1) (Lib.hid g2) (Lib.hid g4') (Lib.hid g5') (Lib.hid g3) (by simpa using hE) (beq_eq_false_iff_ne.2 (by omega)) w

theorem cells37 : Try.prog.cellsOf 37 = 3 := by kernel_rfl
theorem cells9 : Try.prog.cellsOf 9 = 1 := by kernel_rfl

set_option maxRecDepth 100000 in
theorem lifted (os : Os) (started : os.Started) (H : Type) (enc : TypeId × Value → H) :
    ReturnsInHanded {} Try.checked os 8 .any (Rows.vintWhereSpec.pre6 enc Try.prog Try.f8 Rows.vintWhereRow.domain false) (Rows.vintWhereSpec.post enc Try.prog Try.f8 false true false false) := by
  refine returnsInHanded_of_change (C := Try.checked) own started (by kernel_rfl) Try.func8
    (ChangeSpec.witness6 (enc := enc) (C := Try.checked) false ⟨#[], #[.agg #[.string ByteArray.empty, .string ByteArray.empty, .string ByteArray.empty], .int .u8 0], []⟩ 8 (by kernel_rfl) (by kernel_rfl) (by kernel_rfl) (by kernel_rfl)) ?_
  intro W base args ds gs before hval0 hW hcnd _
  have hval : ∀ (j : Nat) t v, Try.f8.params[j]? = some t → args[j]? = some v → Value.okWide Try.prog W .any base t v := hval0
  have hW' := hW
  obtain ⟨p, q, hA0, hV, rfl, hfz, hnd⟩ := hW
  have hA : DataW.TrodAll enc Try.prog W 0 (fun _ => true) true Try.f8.params.toList args.toList ds p := hA0
  rw [Try.params8] at hA hval
  obtain ⟨v0, vs0, d0, ds0, p0, q0, hargs, rfl, rfl, h0, r0⟩ := trodAll_cons hA
  obtain ⟨v1, vs1, d1, ds1, p1, q1, rfl, rfl, rfl, h1, r1⟩ := trodAll_cons r0
  obtain ⟨rfl, rfl, rfl⟩ := trodAll_nil r1
  obtain rfl : args = #[v0, v1] := by cases args; simp_all
  obtain ⟨rfl, rfl⟩ := trodVars_none hV
  obtain ⟨cs, rfl, hsz⟩ : ∃ cs, v0 = .agg cs ∧ cs.size = Try.prog.cellsOf 37 := by
    have h := hval 0 37 v0 rfl rfl
    simp only [Value.okWide, Try.underlying37] at h
    obtain ⟨cs, e1, e2, _⟩ := h
    exact ⟨cs, e1, e2⟩
  obtain ⟨c0, c1, c2, rfl⟩ := array3 (hsz.trans cells37)
  have k0 := h0
  have lt0 : ∀ x ∈ p0, x.block < W.heap.size := by obtain ⟨m, hm⟩ := k0; exact DataW.trod_lt m _ _ _ hm
  obtain ⟨A0, A1, A2, rfl, rfl, rfl, z0, z1, z2⟩ : ∃ A0 A1 A2 : ByteArray, c0 = .string A0 ∧ c1 = .string A1 ∧ c2 = .string A2 ∧ A0.size ≤ maxLen ∧ A1.size ≤ maxLen ∧ A2.size ≤ maxLen := by
    obtain ⟨fuel, hf⟩ := h0
    obtain ⟨xs, m, _, _, _, hl, hx⟩ := DataW.trod_array Try.underlying37 hf
    have g0 := hx 0 (by omega)
    have g1 := hx 1 (by omega)
    have g2 := hx 2 (by omega)
    simp only [cells9, Value.cells] at g0 g1 g2
    rw [List.getElem?_eq_getElem (by omega)] at g0 g1 g2
    obtain ⟨A0, e0, _, y0⟩ := DataW.trod_string Try.underlying9 g0
    obtain ⟨A1, e1, _, y1⟩ := DataW.trod_string Try.underlying9 g1
    obtain ⟨A2, e2, _, y2⟩ := DataW.trod_string Try.underlying9 g2
    simp at e0 e1 e2
    exact ⟨A0, A1, A2, e0, e1, e2, y0, y1, y2⟩
  obtain ⟨a1, rfl, rfl, rfl, w1⟩ := open_int Try.underlying5 (hval 1 5 v1 rfl rfl) h1
  clear hA0 hval0
  refine (walk A0 A1 A2 a1 W z0 z1 z2 w1).mono fun e W' ⟨he, bel⟩ => ?_
  subst he
  exact ⟨_, rfl, _, _, _, [], _, [], hW', trodAll_mk1 (shut_bool Try.underlying4 _), (trodAll_cons_mk (Below.trod laidOut (by kernel_rfl) (of_decide_eq_true (by kernel_rfl)) k0 bel lt0) (trodAll_cons_mk (shut_int Try.underlying5 w1) trodAll_mk0)), rfl, bel.frame _, fun h => by cases h⟩

theorem over : Rows.vintWhereRow.holds Try.pinned (OpenSpec.ofChange Rows.vintWhereSpec) :=
  OpenClaim.holds_of_wide 8 Try.f8 rfl rfl rfl rfl rfl rfl rfl ⟨rfl, rfl, rfl, rfl, rfl⟩ rfl rfl rfl rfl rfl (by kernel_rfl) Try.func8 (by kernel_rfl)
    (of_decide_eq_true (by kernel_rfl)) (by unfold Func.isWrapper; first | (rw [if_pos (by decide +kernel)]; kernel_rfl) | (rw [if_neg (by decide +kernel)]; exact ⟨rfl, rfl⟩))
    (fun os started H enc _ => lifted os started H enc)

theorem proved : Rows.VintWhereSaid := over
#print axioms proved
end Go.Proofs.Ytpgfgfbhbncabaa.vintWhere
