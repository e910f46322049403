/- The program's calls: Right, Both, Best, Make. -/
import Derived.Test.YtifpahjlmnimnaaOffW2
import Derived.Test.YtifpahjlmnimnaaVintB
namespace Go.Proofs.Ytifpahjlmnimnaa
open Go.RowKit
set_option linter.unusedVariables false
set_option linter.unusedSimpArgs false
set_option maxRecDepth 100000

theorem retB {a b : Bool} (h : a = b) : Ending.returned (.bool a) = .returned (.bool b) := by rw [h]
theorem retST {a b : ByteArray} {c d : Int} (h : a = b) (k : c = d) : Ending.returned (.tuple #[.string a, .int .i64 c]) = .returned (.tuple #[.string b, .int .i64 d]) := by rw [h, k]
theorem text_of (l : List UInt8) : ∃ t : ByteArray, t.data.toList = l := ⟨⟨l.toArray⟩, rfl⟩
theorem text_eq {t : ByteArray} {l : List UInt8} (h : t.data.toList = l) : (⟨l.toArray⟩ : ByteArray) = t := by
  subst h; rfl
theorem text_ext {t u : ByteArray} (h : t.data.toList = u.data.toList) : t = u := by
  have := text_eq h
  rw [← this]
theorem text_size (t : ByteArray) : t.data.toList.length = t.size := by simp

set_option maxHeartbeats 1000000 in
theorem right_any (s : ByteArray) (w : World) (hs : s.size ≤ maxLen) (b : Bool) (hb : Hid (rightB s.data.toList = b)) :
    Calls Try.prog 70 #[.string s] w fun e w' => e = .returned (.bool b) ∧ Below w.heap.size w w' := by
  have HS := Lib.hid hs
  unfold maxLen at hs
  by_cases h1 : s.size < 1
  · have h1' : (s.size : Int) < 1 := by omega
    have e : rightB s.data.toList = false := by
      rw [Bool.eq_false_iff]; intro h
      have := (right_iff.1 h).1
      rw [text_size] at this; omega
    have HE : Hid (b = false) := Lib.hid (by rw [← hb.out, e])
    clear e h1
    go_enter Try.func70, Try.ntmps70
    go_wp2
    go_ret
    exact ⟨retB HE.out.symm, Below.refl _ _⟩
  · by_cases h8 : 8 < s.size
    · have h1' : decide ((s.size : Int) < 1) = false := by simp; omega
      have h8' : (8 : Int) < s.size := by omega
      have e : rightB s.data.toList = false := by
        rw [Bool.eq_false_iff]; intro h
        have := (right_iff.1 h).2.1
        rw [text_size] at this; omega
      have HE : Hid (b = false) := Lib.hid (by rw [← hb.out, e])
      clear e h1 h8
      go_enter Try.func70, Try.ntmps70
      go_wp2
      go_ret
      exact ⟨retB HE.out.symm, Below.refl _ _⟩
    · have h8' : decide ((8 : Int) < s.size) = false := by simp; omega
      have h1' : decide ((s.size : Int) < 1) = false := by simp; omega
      have HE : Hid ((s.toList == fall (inB s.data.toList)) = b) := Lib.hid (by
        rw [← hb.out, ByteArray.toList_eq]
        simp only [rightB, text_size]
        have e1 : decide (1 ≤ s.size) = true := by simp; omega
        have e2 : decide (s.size ≤ 8) = true := by simp; omega
        rw [e1, e2]; rfl)
      clear h1 h8
      go_enter Try.func70, Try.ntmps70
      go_wp2_with fail
      refine (setOf_any s _ HS.out).mono ?_
      rintro e w1 ⟨rfl, hb1⟩
      go_wp2_with fail
      refine (falling_any _ _).mono ?_
      rintro e w2 ⟨rfl, hb2⟩
      go_wp2_with fail
      go_ret
      exact ⟨retB HE.out, hb1.trans (hb2.mono hb1.size)⟩

theorem capB_sets (a b : List UInt8) : (fun j => inB a j && inB b j) = capB a b := rfl


def BestIs (a b : ByteArray) (v e : Int) : Prop := bestV a.data.toList b.data.toList = v ∧ bestE a.data.toList b.data.toList = e
theorem retT {a b c d : Int} (h : a = c) (k : b = d) : Ending.returned (.tuple #[.int .i64 a, .int .i64 b]) = .returned (.tuple #[.int .i64 c, .int .i64 d]) := by rw [h, k]


end Go.Proofs.Ytifpahjlmnimnaa
