/- What bounds a pool's answers: no more is held than there is room for; a message where it is told, and nothing more held beside an error. -/
import Derived.Test.YtjcgckhheegonaaPoolM
namespace Go.Proofs.Ytjcgckhheegonaa
set_option linter.unusedVariables false
set_option linter.unusedSimpArgs false
theorem pick_size (fs : List Fr) (i : Nat) : ∀ (s : ByteArray), s.size ≤ (fs.foldl (fun s f => if f.ix == (i : Int) then s ++ f.s else s) s).size ∧ ∀ f, f ∈ fs → f.ix = (i : Int) → f.s.size ≤ (fs.foldl (fun s f => if f.ix == (i : Int) then s ++ f.s else s) s).size := by
  induction fs with
  | nil => intro s; exact ⟨Nat.le_refl _, fun f hf => by cases hf⟩
  | cons g r ih =>
    intro s
    rw [List.foldl_cons]
    obtain ⟨h1, h2⟩ := ih (if g.ix == (i : Int) then s ++ g.s else s)
    have h3 : s.size ≤ (if g.ix == (i : Int) then s ++ g.s else s).size := by
      split
      · simp [ByteArray.size_append]
      · exact Nat.le_refl _
    refine ⟨Nat.le_trans h3 h1, fun f hf e => ?_⟩
    rcases List.mem_cons.1 hf with q | q
    · subst q
      have h4 : f.s.size ≤ (if f.ix == (i : Int) then s ++ f.s else s).size := by
        rw [if_pos (by simpa using e)]
        simp only [ByteArray.size_append]
        omega
      exact Nat.le_trans h4 h1
    · exact h2 f q e
theorem foldr_size (p : Nat → ByteArray) (l : List Nat) : ∀ (s : ByteArray), s.size ≤ (l.foldl (fun s i => s ++ p i) s).size ∧ ∀ i, i ∈ l → (p i).size ≤ (l.foldl (fun s i => s ++ p i) s).size := by
  induction l with
  | nil => intro s; exact ⟨Nat.le_refl _, fun f hf => by cases hf⟩
  | cons g r ih =>
    intro s
    rw [List.foldl_cons]
    obtain ⟨h1, h2⟩ := ih (s ++ p g)
    simp only [ByteArray.size_append] at h1
    refine ⟨by omega, fun i hi => ?_⟩
    rcases List.mem_cons.1 hi with q | q
    · subst q; omega
    · exact h2 i q
/-- A part whose place is below the number of parts is in what they make. -/
theorem join_size {fs : List Fr} {f : Fr} (hf : f ∈ fs) (h0 : 0 ≤ f.ix) (h1 : f.ix < (fs.length : Int)) : f.s.size ≤ (joinM fs).size := by
  obtain ⟨i, hi⟩ := Int.eq_ofNat_of_zero_le h0
  have h2 := (foldr_size (pick fs) (List.range fs.length) ⟨#[]⟩).2 i (List.mem_range.2 (by omega))
  have h3 := (pick_size fs i ⟨#[]⟩).2 f hf hi
  exact Nat.le_trans h3 h2
theorem wo_le (id : Int) (l : List Ms) : (wo id l).length ≤ l.length ∧ heldM (wo id l) ≤ heldM l := ⟨List.length_filter_le _ _, heldM_filter _ _⟩
theorem exp_le (now : Int) (l : List Ms) : (expM now l).length ≤ l.length ∧ heldM (expM now l) ≤ heldM l := ⟨List.length_filter_le _ _, heldM_filter _ _⟩
/-- What an Add tells: a message just where it tells yes, with no error; beside an error no more is held. -/
structure Tells (P P' : Pl) (t : ByteArray) (b : Bool) (E : Nat) : Prop where
  yes : b = true → E = 0 ∧ 1 ≤ t.size
  no : b = false → t = ⟨#[]⟩
  err : E ≠ 0 → P'.l.length ≤ P.l.length ∧ heldM P'.l ≤ heldM P.l
theorem addL_tells {P : Pl} {f : Fr} (hf : rightF f = true) (now : Int) : Tells P { P with l := (addL f now P.slots P.bytes P.l).1 } (addL f now P.slots P.bytes P.l).2.1 (addL f now P.slots P.bytes P.l).2.2.1 (addL f now P.slots P.bytes P.l).2.2.2 := by
  have hr := rightF_iff.1 hf
  unfold addL
  cases hfi : findM f.id P.l with
  | none =>
    simp only
    split
    · exact ⟨fun e => (by cases e), fun _ => rfl, fun _ => ⟨Nat.le_refl _, Nat.le_refl _⟩⟩
    · exact ⟨fun e => (by cases e), fun _ => rfl, fun e => absurd rfl e⟩
  | some m =>
    simp only
    split
    · exact ⟨fun e => (by cases e), fun _ => rfl, fun _ => ⟨Nat.le_refl _, Nat.le_refl _⟩⟩
    · split
      · exact ⟨fun e => (by cases e), fun _ => rfl, fun _ => ⟨Nat.le_refl _, Nat.le_refl _⟩⟩
      · split
        · exact ⟨fun e => (by cases e), fun _ => rfl, fun _ => ⟨Nat.le_refl _, Nat.le_refl _⟩⟩
        · split
          · exact ⟨fun e => (by cases e), fun _ => rfl, fun e => absurd rfl e⟩
          · rename_i h4
            split
            · exact ⟨fun e => (by cases e), fun _ => rfl, fun _ => wo_le _ _⟩
            · refine ⟨fun _ => ⟨rfl, ?_⟩, fun e => (by cases e), fun e => absurd rfl e⟩
              have := join_size (fs := m.parts ++ [f]) (f := f) (by simp) (by omega) (by simp only [List.length_append, List.length_cons, List.length_nil]; omega)
              simp only
              omega
theorem addP_tells (f : Fr) (now : Int) (P : Pl) : Tells P (addP f now P).1 (addP f now P).2.1 (addP f now P).2.2.1 (addP f now P).2.2.2 := by
  unfold addP
  split
  · exact ⟨fun e => (by cases e), fun _ => rfl, fun _ => ⟨Nat.le_refl _, Nat.le_refl _⟩⟩
  · rename_i hf
    have hf' : rightF f = true := by simpa using hf
    split
    · have hr := rightF_iff.1 hf'
      exact ⟨fun _ => ⟨rfl, hr.2.2.2.2.2.2.1⟩, fun e => (by cases e), fun e => absurd rfl e⟩
    · have h := addL_tells (P := { P with l := expM now P.l }) hf' now
      have h2 := exp_le now P.l
      exact ⟨h.yes, h.no, fun e => by have := h.err e; exact ⟨Nat.le_trans this.1 h2.1, Nat.le_trans this.2 h2.2⟩⟩
end Go.Proofs.Ytjcgckhheegonaa
