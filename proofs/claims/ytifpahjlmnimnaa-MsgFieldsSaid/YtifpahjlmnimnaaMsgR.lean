/- Which messages may be, kind by kind. -/
import Derived.Test.YtifpahjlmnimnaaMsgE
namespace Go.Proofs.Ytifpahjlmnimnaa
open Go.RowKit
set_option linter.unusedVariables false
set_option linter.unusedSimpArgs false
set_option maxRecDepth 20000

theorem empty_iff {a : ByteArray} : (a.toList == ByteArray.empty.toList) = true ↔ a = ByteArray.empty := by rw [beq_iff_eq, toList_iff]
theorem go1 (M : Ms) : goR (fds 1) M = (if inIv 1 4294967296 (M.i 1) = true then if rightB M.s.data.toList = true then if inIv 0 1 (M.i 4) = true then if inIv 1 1048576 (M.i 6) = true then if inIv 1 1048576 (M.i 7) = true then if inIv 1 1048576 (M.i 8) = true then if inIv 1 1048576 (M.i 9) = true then if inIv 1 1048576 (M.i 10) = true then some ((((((((M.set 1 0).setS ByteArray.empty).set 4 0).set 6 0).set 7 0).set 8 0).set 9 0).set 10 0) else none else none else none else none else none else none else none else none) := rfl
theorem end1 (M : Ms) (hk : M.i 0 = 1) : eqM ((((((((M.set 1 0).setS ByteArray.empty).set 4 0).set 6 0).set 7 0).set 8 0).set 9 0).set 10 0) (zeroM (((((((((M.set 1 0).setS ByteArray.empty).set 4 0).set 6 0).set 7 0).set 8 0).set 9 0).set 10 0).i 0)) = true ↔ M.i 2 = 0 ∧ M.i 5 = 0 ∧ M.i 11 = 0 ∧ M.i 12 = 0 := by
  show (M.i 0 == M.i 0 && ((0 : Int) == 0 && (M.i 2 == 0 && (ByteArray.empty.toList == ByteArray.empty.toList && ((0 : Int) == 0 && (M.i 5 == 0 && ((0 : Int) == 0 && ((0 : Int) == 0 && ((0 : Int) == 0 && ((0 : Int) == 0 && ((0 : Int) == 0 && (M.i 11 == 0 && (M.i 12 == 0))))))))))))) = true ↔ _
  simp only [Bool.and_eq_true, beq_iff_eq, toList_iff, true_and, and_true]
set_option maxHeartbeats 1000000 in
theorem right1_iff (M : Ms) (hk : M.i 0 = 1) : rightM M = true ↔ inIv 1 4294967296 (M.i 1) = true ∧ rightB M.s.data.toList = true ∧ inIv 0 1 (M.i 4) = true ∧ inIv 1 1048576 (M.i 6) = true ∧ inIv 1 1048576 (M.i 7) = true ∧ inIv 1 1048576 (M.i 8) = true ∧ inIv 1 1048576 (M.i 9) = true ∧ inIv 1 1048576 (M.i 10) = true ∧ M.i 2 = 0 ∧ M.i 5 = 0 ∧ M.i 11 = 0 ∧ M.i 12 = 0 := by
  rw [right_go (by rw [hk]; simp [fds]), hk, go1]
  constructor
  · intro h
    by_cases h0 : inIv 1 4294967296 (M.i 1) = true
    case neg => rw [if_neg h0] at h; cases h
    rw [if_pos h0] at h
    by_cases h1 : rightB M.s.data.toList = true
    case neg => rw [if_neg h1] at h; cases h
    rw [if_pos h1] at h
    by_cases h2 : inIv 0 1 (M.i 4) = true
    case neg => rw [if_neg h2] at h; cases h
    rw [if_pos h2] at h
    by_cases h3 : inIv 1 1048576 (M.i 6) = true
    case neg => rw [if_neg h3] at h; cases h
    rw [if_pos h3] at h
    by_cases h4 : inIv 1 1048576 (M.i 7) = true
    case neg => rw [if_neg h4] at h; cases h
    rw [if_pos h4] at h
    by_cases h5 : inIv 1 1048576 (M.i 8) = true
    case neg => rw [if_neg h5] at h; cases h
    rw [if_pos h5] at h
    by_cases h6 : inIv 1 1048576 (M.i 9) = true
    case neg => rw [if_neg h6] at h; cases h
    rw [if_pos h6] at h
    by_cases h7 : inIv 1 1048576 (M.i 10) = true
    case neg => rw [if_neg h7] at h; cases h
    rw [if_pos h7] at h
    exact ⟨h0, h1, h2, h3, h4, h5, h6, h7, (end1 M hk).1 h⟩
  · rintro ⟨h0, h1, h2, h3, h4, h5, h6, h7, h⟩
    rw [if_pos h0, if_pos h1, if_pos h2, if_pos h3, if_pos h4, if_pos h5, if_pos h6, if_pos h7]
    exact (end1 M hk).2 h
def keep1 (M : Ms) : Ms := ⟨fun j => match j with | 0 => 1 | 1 => M.i 1 | 4 => M.i 4 | 6 => M.i 6 | 7 => M.i 7 | 8 => M.i 8 | 9 => M.i 9 | 10 => M.i 10 | _ => 0, M.s⟩
theorem keep1_iff (M : Ms) (hk : M.i 0 = 1) : eqM M (keep1 M) = true ↔ M.i 2 = 0 ∧ M.i 5 = 0 ∧ M.i 11 = 0 ∧ M.i 12 = 0 := by
  show (M.i 0 == 1 && (M.i 1 == M.i 1 && (M.i 2 == 0 && (M.s.toList == M.s.toList && (M.i 4 == M.i 4 && (M.i 5 == 0 && (M.i 6 == M.i 6 && (M.i 7 == M.i 7 && (M.i 8 == M.i 8 && (M.i 9 == M.i 9 && (M.i 10 == M.i 10 && (M.i 11 == 0 && (M.i 12 == 0))))))))))))) = true ↔ _
  simp only [Bool.and_eq_true, beq_iff_eq, toList_iff, true_and, and_true, hk]
theorem right1_eq (M : Ms) (hk : M.i 0 = 1) (h0 : inIv 1 4294967296 (M.i 1) = true) (h1 : rightB M.s.data.toList = true) (h2 : inIv 0 1 (M.i 4) = true) (h3 : inIv 1 1048576 (M.i 6) = true) (h4 : inIv 1 1048576 (M.i 7) = true) (h5 : inIv 1 1048576 (M.i 8) = true) (h6 : inIv 1 1048576 (M.i 9) = true) (h7 : inIv 1 1048576 (M.i 10) = true) : eqM M (keep1 M) = rightM M := by
  rw [Bool.eq_iff_iff, keep1_iff M hk, right1_iff M hk]
  exact ⟨fun h => ⟨h0, h1, h2, h3, h4, h5, h6, h7, h⟩, fun h => h.2.2.2.2.2.2.2.2⟩
theorem go2 (M : Ms) : goR (fds 2) M = (if inIv 1 4294967296 (M.i 1) = true then if inIv 1 4294967296 (M.i 2) = true then if inIv 1 1048576 (M.i 6) = true then if inIv 1 1048576 (M.i 8) = true then if inIv 1 1048576 (M.i 9) = true then some (((((M.set 1 0).set 2 0).set 6 0).set 8 0).set 9 0) else none else none else none else none else none) := rfl
theorem end2 (M : Ms) (hk : M.i 0 = 2) : eqM (((((M.set 1 0).set 2 0).set 6 0).set 8 0).set 9 0) (zeroM ((((((M.set 1 0).set 2 0).set 6 0).set 8 0).set 9 0).i 0)) = true ↔ M.s = ByteArray.empty ∧ M.i 4 = 0 ∧ M.i 5 = 0 ∧ M.i 7 = 0 ∧ M.i 10 = 0 ∧ M.i 11 = 0 ∧ M.i 12 = 0 := by
  show (M.i 0 == M.i 0 && ((0 : Int) == 0 && ((0 : Int) == 0 && (M.s.toList == ByteArray.empty.toList && (M.i 4 == 0 && (M.i 5 == 0 && ((0 : Int) == 0 && (M.i 7 == 0 && ((0 : Int) == 0 && ((0 : Int) == 0 && (M.i 10 == 0 && (M.i 11 == 0 && (M.i 12 == 0))))))))))))) = true ↔ _
  simp only [Bool.and_eq_true, beq_iff_eq, toList_iff, true_and, and_true]
set_option maxHeartbeats 1000000 in
theorem right2_iff (M : Ms) (hk : M.i 0 = 2) : rightM M = true ↔ inIv 1 4294967296 (M.i 1) = true ∧ inIv 1 4294967296 (M.i 2) = true ∧ inIv 1 1048576 (M.i 6) = true ∧ inIv 1 1048576 (M.i 8) = true ∧ inIv 1 1048576 (M.i 9) = true ∧ M.s = ByteArray.empty ∧ M.i 4 = 0 ∧ M.i 5 = 0 ∧ M.i 7 = 0 ∧ M.i 10 = 0 ∧ M.i 11 = 0 ∧ M.i 12 = 0 := by
  rw [right_go (by rw [hk]; simp [fds]), hk, go2]
  constructor
  · intro h
    by_cases h0 : inIv 1 4294967296 (M.i 1) = true
    case neg => rw [if_neg h0] at h; cases h
    rw [if_pos h0] at h
    by_cases h1 : inIv 1 4294967296 (M.i 2) = true
    case neg => rw [if_neg h1] at h; cases h
    rw [if_pos h1] at h
    by_cases h2 : inIv 1 1048576 (M.i 6) = true
    case neg => rw [if_neg h2] at h; cases h
    rw [if_pos h2] at h
    by_cases h3 : inIv 1 1048576 (M.i 8) = true
    case neg => rw [if_neg h3] at h; cases h
    rw [if_pos h3] at h
    by_cases h4 : inIv 1 1048576 (M.i 9) = true
    case neg => rw [if_neg h4] at h; cases h
    rw [if_pos h4] at h
    exact ⟨h0, h1, h2, h3, h4, (end2 M hk).1 h⟩
  · rintro ⟨h0, h1, h2, h3, h4, h⟩
    rw [if_pos h0, if_pos h1, if_pos h2, if_pos h3, if_pos h4]
    exact (end2 M hk).2 h
def keep2 (M : Ms) : Ms := ⟨fun j => match j with | 0 => 2 | 1 => M.i 1 | 2 => M.i 2 | 6 => M.i 6 | 8 => M.i 8 | 9 => M.i 9 | _ => 0, ByteArray.empty⟩
theorem keep2_iff (M : Ms) (hk : M.i 0 = 2) : eqM M (keep2 M) = true ↔ M.s = ByteArray.empty ∧ M.i 4 = 0 ∧ M.i 5 = 0 ∧ M.i 7 = 0 ∧ M.i 10 = 0 ∧ M.i 11 = 0 ∧ M.i 12 = 0 := by
  show (M.i 0 == 2 && (M.i 1 == M.i 1 && (M.i 2 == M.i 2 && (M.s.toList == ByteArray.empty.toList && (M.i 4 == 0 && (M.i 5 == 0 && (M.i 6 == M.i 6 && (M.i 7 == 0 && (M.i 8 == M.i 8 && (M.i 9 == M.i 9 && (M.i 10 == 0 && (M.i 11 == 0 && (M.i 12 == 0))))))))))))) = true ↔ _
  simp only [Bool.and_eq_true, beq_iff_eq, toList_iff, true_and, and_true, hk]
theorem right2_eq (M : Ms) (hk : M.i 0 = 2) (h0 : inIv 1 4294967296 (M.i 1) = true) (h1 : inIv 1 4294967296 (M.i 2) = true) (h2 : inIv 1 1048576 (M.i 6) = true) (h3 : inIv 1 1048576 (M.i 8) = true) (h4 : inIv 1 1048576 (M.i 9) = true) : eqM M (keep2 M) = rightM M := by
  rw [Bool.eq_iff_iff, keep2_iff M hk, right2_iff M hk]
  exact ⟨fun h => ⟨h0, h1, h2, h3, h4, h⟩, fun h => h.2.2.2.2.2⟩
theorem go3 (M : Ms) : goR (fds 3) M = (if inIv 1 4294967296 (M.i 2) = true then if inIv 1 15 (M.i 5) = true then some ((M.set 2 0).set 5 0) else none else none) := rfl
theorem end3 (M : Ms) (hk : M.i 0 = 3) : eqM ((M.set 2 0).set 5 0) (zeroM (((M.set 2 0).set 5 0).i 0)) = true ↔ M.i 1 = 0 ∧ M.s = ByteArray.empty ∧ M.i 4 = 0 ∧ M.i 6 = 0 ∧ M.i 7 = 0 ∧ M.i 8 = 0 ∧ M.i 9 = 0 ∧ M.i 10 = 0 ∧ M.i 11 = 0 ∧ M.i 12 = 0 := by
  show (M.i 0 == M.i 0 && (M.i 1 == 0 && ((0 : Int) == 0 && (M.s.toList == ByteArray.empty.toList && (M.i 4 == 0 && ((0 : Int) == 0 && (M.i 6 == 0 && (M.i 7 == 0 && (M.i 8 == 0 && (M.i 9 == 0 && (M.i 10 == 0 && (M.i 11 == 0 && (M.i 12 == 0))))))))))))) = true ↔ _
  simp only [Bool.and_eq_true, beq_iff_eq, toList_iff, true_and, and_true]
set_option maxHeartbeats 1000000 in
theorem right3_iff (M : Ms) (hk : M.i 0 = 3) : rightM M = true ↔ inIv 1 4294967296 (M.i 2) = true ∧ inIv 1 15 (M.i 5) = true ∧ M.i 1 = 0 ∧ M.s = ByteArray.empty ∧ M.i 4 = 0 ∧ M.i 6 = 0 ∧ M.i 7 = 0 ∧ M.i 8 = 0 ∧ M.i 9 = 0 ∧ M.i 10 = 0 ∧ M.i 11 = 0 ∧ M.i 12 = 0 := by
  rw [right_go (by rw [hk]; simp [fds]), hk, go3]
  constructor
  · intro h
    by_cases h0 : inIv 1 4294967296 (M.i 2) = true
    case neg => rw [if_neg h0] at h; cases h
    rw [if_pos h0] at h
    by_cases h1 : inIv 1 15 (M.i 5) = true
    case neg => rw [if_neg h1] at h; cases h
    rw [if_pos h1] at h
    exact ⟨h0, h1, (end3 M hk).1 h⟩
  · rintro ⟨h0, h1, h⟩
    rw [if_pos h0, if_pos h1]
    exact (end3 M hk).2 h
def keep3 (M : Ms) : Ms := ⟨fun j => match j with | 0 => 3 | 2 => M.i 2 | 5 => M.i 5 | _ => 0, ByteArray.empty⟩
theorem keep3_iff (M : Ms) (hk : M.i 0 = 3) : eqM M (keep3 M) = true ↔ M.i 1 = 0 ∧ M.s = ByteArray.empty ∧ M.i 4 = 0 ∧ M.i 6 = 0 ∧ M.i 7 = 0 ∧ M.i 8 = 0 ∧ M.i 9 = 0 ∧ M.i 10 = 0 ∧ M.i 11 = 0 ∧ M.i 12 = 0 := by
  show (M.i 0 == 3 && (M.i 1 == 0 && (M.i 2 == M.i 2 && (M.s.toList == ByteArray.empty.toList && (M.i 4 == 0 && (M.i 5 == M.i 5 && (M.i 6 == 0 && (M.i 7 == 0 && (M.i 8 == 0 && (M.i 9 == 0 && (M.i 10 == 0 && (M.i 11 == 0 && (M.i 12 == 0))))))))))))) = true ↔ _
  simp only [Bool.and_eq_true, beq_iff_eq, toList_iff, true_and, and_true, hk]
theorem right3_eq (M : Ms) (hk : M.i 0 = 3) (h0 : inIv 1 4294967296 (M.i 2) = true) (h1 : inIv 1 15 (M.i 5) = true) : eqM M (keep3 M) = rightM M := by
  rw [Bool.eq_iff_iff, keep3_iff M hk, right3_iff M hk]
  exact ⟨fun h => ⟨h0, h1, h⟩, fun h => h.2.2⟩
theorem go4 (M : Ms) : goR (fds 4) M = (if inIv 1 4294967296 (M.i 2) = true then if inIv 0 1000 (M.i 11) = true then if inIv 0 255 (M.i 12) = true then if inIv 1 1048576 (M.i 9) = true then some ((((M.set 2 0).set 11 0).set 12 0).set 9 0) else none else none else none else none) := rfl
theorem end4 (M : Ms) (hk : M.i 0 = 4) : eqM ((((M.set 2 0).set 11 0).set 12 0).set 9 0) (zeroM (((((M.set 2 0).set 11 0).set 12 0).set 9 0).i 0)) = true ↔ M.i 1 = 0 ∧ M.s = ByteArray.empty ∧ M.i 4 = 0 ∧ M.i 5 = 0 ∧ M.i 6 = 0 ∧ M.i 7 = 0 ∧ M.i 8 = 0 ∧ M.i 10 = 0 := by
  show (M.i 0 == M.i 0 && (M.i 1 == 0 && ((0 : Int) == 0 && (M.s.toList == ByteArray.empty.toList && (M.i 4 == 0 && (M.i 5 == 0 && (M.i 6 == 0 && (M.i 7 == 0 && (M.i 8 == 0 && ((0 : Int) == 0 && (M.i 10 == 0 && ((0 : Int) == 0 && ((0 : Int) == 0))))))))))))) = true ↔ _
  simp only [Bool.and_eq_true, beq_iff_eq, toList_iff, true_and, and_true]
set_option maxHeartbeats 1000000 in
theorem right4_iff (M : Ms) (hk : M.i 0 = 4) : rightM M = true ↔ inIv 1 4294967296 (M.i 2) = true ∧ inIv 0 1000 (M.i 11) = true ∧ inIv 0 255 (M.i 12) = true ∧ inIv 1 1048576 (M.i 9) = true ∧ M.i 1 = 0 ∧ M.s = ByteArray.empty ∧ M.i 4 = 0 ∧ M.i 5 = 0 ∧ M.i 6 = 0 ∧ M.i 7 = 0 ∧ M.i 8 = 0 ∧ M.i 10 = 0 := by
  rw [right_go (by rw [hk]; simp [fds]), hk, go4]
  constructor
  · intro h
    by_cases h0 : inIv 1 4294967296 (M.i 2) = true
    case neg => rw [if_neg h0] at h; cases h
    rw [if_pos h0] at h
    by_cases h1 : inIv 0 1000 (M.i 11) = true
    case neg => rw [if_neg h1] at h; cases h
    rw [if_pos h1] at h
    by_cases h2 : inIv 0 255 (M.i 12) = true
    case neg => rw [if_neg h2] at h; cases h
    rw [if_pos h2] at h
    by_cases h3 : inIv 1 1048576 (M.i 9) = true
    case neg => rw [if_neg h3] at h; cases h
    rw [if_pos h3] at h
    exact ⟨h0, h1, h2, h3, (end4 M hk).1 h⟩
  · rintro ⟨h0, h1, h2, h3, h⟩
    rw [if_pos h0, if_pos h1, if_pos h2, if_pos h3]
    exact (end4 M hk).2 h
def keep4 (M : Ms) : Ms := ⟨fun j => match j with | 0 => 4 | 2 => M.i 2 | 9 => M.i 9 | 11 => M.i 11 | 12 => M.i 12 | _ => 0, ByteArray.empty⟩
theorem keep4_iff (M : Ms) (hk : M.i 0 = 4) : eqM M (keep4 M) = true ↔ M.i 1 = 0 ∧ M.s = ByteArray.empty ∧ M.i 4 = 0 ∧ M.i 5 = 0 ∧ M.i 6 = 0 ∧ M.i 7 = 0 ∧ M.i 8 = 0 ∧ M.i 10 = 0 := by
  show (M.i 0 == 4 && (M.i 1 == 0 && (M.i 2 == M.i 2 && (M.s.toList == ByteArray.empty.toList && (M.i 4 == 0 && (M.i 5 == 0 && (M.i 6 == 0 && (M.i 7 == 0 && (M.i 8 == 0 && (M.i 9 == M.i 9 && (M.i 10 == 0 && (M.i 11 == M.i 11 && (M.i 12 == M.i 12))))))))))))) = true ↔ _
  simp only [Bool.and_eq_true, beq_iff_eq, toList_iff, true_and, and_true, hk]
theorem right4_eq (M : Ms) (hk : M.i 0 = 4) (h0 : inIv 1 4294967296 (M.i 2) = true) (h1 : inIv 0 1000 (M.i 11) = true) (h2 : inIv 0 255 (M.i 12) = true) (h3 : inIv 1 1048576 (M.i 9) = true) : eqM M (keep4 M) = rightM M := by
  rw [Bool.eq_iff_iff, keep4_iff M hk, right4_iff M hk]
  exact ⟨fun h => ⟨h0, h1, h2, h3, h⟩, fun h => h.2.2.2.2⟩
theorem rno {b : Bool} {M : Ms} (HB : rightM M = b) (h : rightM M = true → False) : false = b := by
  cases e : rightM M with
  | false => rw [e] at HB; exact HB
  | true => exact (h e).elim
end Go.Proofs.Ytifpahjlmnimnaa
