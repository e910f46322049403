/- What MsgFields says: something in a field that its kind has not; another name. -/
import Derived.Test.YtifpahjlmnimnaaMsgV
namespace Go.Proofs.Ytifpahjlmnimnaa
open Go.RowKit
set_option linter.unusedVariables false
set_option linter.unusedSimpArgs false
set_option maxRecDepth 20000

theorem MsgAt.any {w : World} {q j : Nat} {M : Ms} (h : MsgAt w q M) (hj : j < 13) : ∃ v, w.cell? ⟨q, j, none⟩ = some v ∧ w.frozen? ⟨q, j, none⟩ = false := by
  have h1 := cell_at j h
  have hs : M.cl.size = 13 := rfl
  rw [Array.getElem?_eq_getElem (by rw [hs]; exact hj)] at h1
  exact ⟨_, h1, frz_of_row j h⟩
theorem bad1 {N : Ms} (e : N.i 0 = 1) (x1 x2 x3 x4 : Int) (h : ¬ (x1 = 0 ∧ x2 = 0 ∧ x3 = 0 ∧ x4 = 0)) : rightM ((((N.set 2 x1).set 5 x2).set 11 x3).set 12 x4) = false := by
  cases h' : rightM ((((N.set 2 x1).set 5 x2).set 11 x3).set 12 x4) with
  | false => rfl
  | true =>
    obtain ⟨_, _, _, _, _, _, _, _, a, b, c, d⟩ := (right1_iff ((((N.set 2 x1).set 5 x2).set 11 x3).set 12 x4) e).1 h'
    exact absurd ⟨a, b, c, d⟩ h
theorem bad2 {N : Ms} (e : N.i 0 = 2) (t : ByteArray) (x2 x3 x4 : Int) (h : ¬ (t = ByteArray.empty ∧ x2 = 0 ∧ x3 = 0 ∧ x4 = 0)) : rightM ((((N.setS t).set 4 x2).set 7 x3).set 10 x4) = false := by
  cases h' : rightM ((((N.setS t).set 4 x2).set 7 x3).set 10 x4) with
  | false => rfl
  | true =>
    obtain ⟨_, _, _, _, _, a, b, _, c, d, _, _⟩ := (right2_iff ((((N.setS t).set 4 x2).set 7 x3).set 10 x4) e).1 h'
    exact absurd ⟨a, b, c, d⟩ h
theorem bad3 {N : Ms} (e : N.i 0 = 3) (x1 x2 x3 x4 : Int) (h : ¬ (x1 = 0 ∧ x2 = 0 ∧ x3 = 0 ∧ x4 = 0)) : rightM ((((N.set 1 x1).set 9 x2).set 8 x3).set 6 x4) = false := by
  cases h' : rightM ((((N.set 1 x1).set 9 x2).set 8 x3).set 6 x4) with
  | false => rfl
  | true =>
    obtain ⟨_, _, a, _, _, d, _, c, b, _, _, _⟩ := (right3_iff ((((N.set 1 x1).set 9 x2).set 8 x3).set 6 x4) e).1 h'
    exact absurd ⟨a, b, c, d⟩ h
theorem bad4 {N : Ms} (e : N.i 0 = 4) (x1 x2 x3 x4 : Int) (h : ¬ (x1 = 0 ∧ x2 = 0 ∧ x3 = 0 ∧ x4 = 0)) : rightM ((((N.set 1 x1).set 5 x2).set 6 x3).set 10 x4) = false := by
  cases h' : rightM ((((N.set 1 x1).set 5 x2).set 6 x3).set 10 x4) with
  | false => rfl
  | true =>
    obtain ⟨_, _, _, _, a, _, _, b, c, _, _, d⟩ := (right4_iff ((((N.set 1 x1).set 5 x2).set 6 x3).set 10 x4) e).1 h'
    exact absurd ⟨a, b, c, d⟩ h
theorem set9_right {N : Ms} (hr : rightM N = true) (h3 : N.i 0 ≠ 3) {x : Int} (h1 : 1 ≤ x) (h2 : x ≤ 1048576) : rightM (N.set 9 x) = true := by
  have hx : inIv 1 1048576 x = true := by simp [inIv, h1, h2]
  rcases fds_cases (N.i 0) with e | e | e | e | ⟨_, _, _, _, e⟩
  · obtain ⟨a1, a2, a3, a4, a5, a6, a7, a8, a9, a10, a11, a12⟩ := (right1_iff N e).1 hr
    exact (right1_iff (N.set 9 x) e).2 ⟨a1, a2, a3, a4, a5, a6, hx, a8, a9, a10, a11, a12⟩
  · obtain ⟨a1, a2, a3, a4, a5, a6, a7, a8, a9, a10, a11, a12⟩ := (right2_iff N e).1 hr
    exact (right2_iff (N.set 9 x) e).2 ⟨a1, a2, a3, a4, hx, a6, a7, a8, a9, a10, a11, a12⟩
  · exact absurd e h3
  · obtain ⟨a1, a2, a3, a4, a5, a6, a7, a8, a9, a10, a11, a12⟩ := (right4_iff N e).1 hr
    exact (right4_iff (N.set 9 x) e).2 ⟨a1, a2, a3, hx, a5, a6, a7, a8, a9, a10, a11, a12⟩
  · rw [right_nofds e] at hr; cases hr
theorem names_has {N : Ms} (hr : rightM N = true) (h3 : N.i 0 ≠ 3) (x : Int) : (namesM (N.set 9 x)).any (fun z => z == x) = true := by
  rcases fds_cases (N.i 0) with e | e | e | e | ⟨_, _, _, _, e⟩
  · unfold namesM; rw [show (N.set 9 x).i 0 = 1 from e]; simp [fds, namL, Ms.set]
  · unfold namesM; rw [show (N.set 9 x).i 0 = 2 from e]; simp [fds, namL, Ms.set]
  · exact absurd e h3
  · unfold namesM; rw [show (N.set 9 x).i 0 = 4 from e]; simp [fds, namL, Ms.set]
  · rw [right_nofds e] at hr; cases hr
theorem namL_len (l : List Fd) (A B : Ms) : (namL l A).length = (namL l B).length := by
  induction l with
  | nil => rfl
  | cons f r ih => cases f <;> simp [namL, ih]
theorem names_len {A B : Ms} (h : A.i 0 = B.i 0) : (namesM A).length = (namesM B).length := by
  unfold namesM; rw [h]; exact namL_len _ _ _
theorem any_take {L : List Int} {k : Nat} (h : k < L.length) (x : Int) : (L.take (k + 1)).any (fun z => z == x) = ((L.take k).any (fun z => z == x) || L.getD k 0 == x) := by
  rw [take_getD h, List.any_append]; simp
theorem names_le (M : Ms) : (namesM M).length ≤ 8 := by
  have h1 := nam_len (fds (M.i 0)) M
  have h2 := fds_len (M.i 0)
  exact Nat.le_trans h1 h2
end Go.Proofs.Ytifpahjlmnimnaa
