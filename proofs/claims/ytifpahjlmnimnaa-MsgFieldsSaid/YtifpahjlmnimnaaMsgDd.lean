/- The document's Reader: the next number, the next offer. -/
import Derived.Test.YtifpahjlmnimnaaMsgDe
import Derived.Test.YtifpahjlmnimnaaMsgCd
namespace Go.Proofs.Ytifpahjlmnimnaa
open Go.RowKit
set_option linter.unusedVariables false
set_option linter.unusedSimpArgs false
set_option maxRecDepth 20000

def RdAt (w : World) (r : Nat) (s : ByteArray) (p e : Nat) : Prop := w.heap[r]? = some (.cells #[.string s, .int .i64 p, .int .i64 e] 64 (0, 0))
theorem RdAt.lt {w : World} {r : Nat} {s : ByteArray} {p e : Nat} (h : RdAt w r s p e) : r < w.heap.size := blk_lt h
theorem RdAt.below {w w' : World} {r : Nat} {s : ByteArray} {p e : Nat} (h : RdAt w r s p e) (hb : Below w.heap.size w w') : RdAt w' r s p e := (hb.block r h.lt).trans h
theorem RdAt.cells {w : World} {r : Nat} {s : ByteArray} {p e : Nat} (h : RdAt w r s p e) : w.cell? ⟨r, 0, none⟩ = some (.string s) ∧ w.cell? ⟨r, 1, none⟩ = some (.int .i64 p) ∧ w.cell? ⟨r, 2, none⟩ = some (.int .i64 e) ∧ w.frozen? ⟨r, 1, none⟩ = false ∧ w.frozen? ⟨r, 2, none⟩ = false :=
  ⟨cell_at 0 h, cell_at 1 h, cell_at 2 h, frz_of_row 1 h, frz_of_row 2 h⟩
def rdN (s : ByteArray) (p e : Nat) : Nat × Nat × Nat := if e = 0 then (match numA s.data.toList p with | (n, q, 0) => (n, q, 0) | (_, _, E) => (0, p, E)) else (0, p, e)
def rdO (s : ByteArray) (p e : Nat) : ByteArray × Nat × Nat := if e = 0 then (tS s p 8, (textA s.data.toList p 8).2.1, (textA s.data.toList p 8).2.2) else (⟨#[]⟩, p, e)
theorem rdN_e {s : ByteArray} {p e : Nat} (h : e ≠ 0) : rdN s p e = (0, p, e) := by simp [rdN, h]
theorem rdN_ok {s : ByteArray} {p n q : Nat} (h : numA s.data.toList p = (n, q, 0)) : rdN s p 0 = (n, q, 0) := by
  unfold rdN; rw [if_pos rfl, h]; rfl
theorem rdN_err {s : ByteArray} {p n q E : Nat} (h : numA s.data.toList p = (n, q, E)) (he : E ≠ 0) : rdN s p 0 = (0, p, E) := by
  unfold rdN; rw [if_pos rfl, h]
  split
  · rename_i k; simp at k; exact absurd k.2.2 he
  · rename_i k; simp at k; rw [k.2.2]
theorem rdN_le (s : ByteArray) (p e : Nat) : (rdN s p e).1 ≤ 4294967296 := by
  by_cases he : e = 0
  · subst he
    obtain ⟨n, q, E, h⟩ : ∃ n q E, numA s.data.toList p = (n, q, E) := ⟨_, _, _, rfl⟩
    have hl := numA_le s.data.toList p
    rw [h] at hl
    by_cases hE : E = 0
    · subst hE; rw [rdN_ok h]; exact hl
    · rw [rdN_err h hE]; exact Nat.zero_le _
  · rw [rdN_e he]; exact Nat.zero_le _
theorem rdN_place (s : ByteArray) (p e : Nat) (hp : p ≤ s.size) : (rdN s p e).2.1 ≤ s.size := by
  by_cases he : e = 0
  · subst he
    obtain ⟨n, q, E, h⟩ : ∃ n q E, numA s.data.toList p = (n, q, E) := ⟨_, _, _, rfl⟩
    have hl := numA_to s p
    rw [h] at hl
    by_cases hE : E = 0
    · subst hE; rw [rdN_ok h]; exact hl
    · rw [rdN_err h hE]; exact hp
  · rw [rdN_e he]; exact hp
def stepD (s : ByteArray) : Fd → Nat × Nat × Ms → Nat × Nat × Ms
  | .int j _ _, (p, e, M) => ((rdN s p e).2.1, (rdN s p e).2.2, M.set j (rdN s p e).1)
  | .ses j _ _, (p, e, M) => ((rdN s p e).2.1, (rdN s p e).2.2, M.set j (rdN s p e).1)
  | .nam j, (p, e, M) => ((rdN s p e).2.1, (rdN s p e).2.2, M.set j (rdN s p e).1)
  | .ver, (p, e, M) => ((rdO s p e).2.1, (rdO s p e).2.2, M.setS (rdO s p e).1)
def runD (s : ByteArray) : List Fd → Nat × Nat × Ms → Nat × Nat × Ms
  | [], st => st
  | f :: r, st => runD s r (stepD s f st)
def toEnd (st : Nat × Nat × Ms) : Nat × Ms × Nat := (st.1, st.2.2, st.2.1)
theorem step_stay (s : ByteArray) (f : Fd) (p e : Nat) (M : Ms) (h : e ≠ 0) : (stepD s f (p, e, M)).2.1 = e := by
  cases f with
  | ver => simp [stepD, rdO, h]
  | _ => simp only [stepD, rdN_e h]
theorem run_stay (s : ByteArray) (l : List Fd) : ∀ (p e : Nat) (M : Ms), e ≠ 0 → (runD s l (p, e, M)).2.1 = e := by
  induction l with
  | nil => intro p e M h; rfl
  | cons f r ih =>
    intro p e M h
    have h1 := step_stay s f p e M h
    show (runD s r (stepD s f (p, e, M))).2.1 = e
    obtain ⟨p', e', M', h2⟩ : ∃ p' e' M', stepD s f (p, e, M) = (p', e', M') := ⟨_, _, _, rfl⟩
    rw [h2] at h1 ⊢
    have h1 : e' = e := h1
    subst h1
    exact ih p' e' M' h
theorem step_ok (s : ByteArray) (f : Fd) (p : Nat) (M : Ms) (h : f.er s p = 0) : stepD s f (p, 0, M) = (f.to s p, 0, f.put s p M) := by
  have num : ∀ (h : (numA s.data.toList p).2.2 = 0), rdN s p 0 = ((numA s.data.toList p).1, (numA s.data.toList p).2.1, 0) := fun h => rdN_ok (by
    obtain ⟨a, b, c, e⟩ : ∃ a b c, numA s.data.toList p = (a, b, c) := ⟨_, _, _, rfl⟩
    rw [e] at h ⊢; have h : c = 0 := h; rw [h])
  cases f with
  | int j lo hi => simp only [stepD, num h, Fd.to, Fd.put]
  | ses j lo hi => simp only [stepD, num h, Fd.to, Fd.put]
  | nam j => simp only [stepD, num h, Fd.to, Fd.put]
  | ver =>
    have h : (textA s.data.toList p 8).2.2 = 0 := h
    simp only [stepD, rdO, if_true, Fd.to, Fd.put, h]
theorem step_er (s : ByteArray) (f : Fd) (p : Nat) (M : Ms) (h : f.er s p ≠ 0) : (stepD s f (p, 0, M)).2.1 = f.er s p := by
  have num : ∀ (h : (numA s.data.toList p).2.2 ≠ 0), rdN s p 0 = (0, p, (numA s.data.toList p).2.2) := fun h => by
    obtain ⟨a, b, c, e⟩ : ∃ a b c, numA s.data.toList p = (a, b, c) := ⟨_, _, _, rfl⟩
    rw [e] at h ⊢; exact rdN_err e h
  cases f with
  | int j lo hi => simp only [stepD, num h, Fd.er]
  | ses j lo hi => simp only [stepD, num h, Fd.er]
  | nam j => simp only [stepD, num h, Fd.er]
  | ver => simp only [stepD, rdO, if_true, Fd.er]
theorem run_end (s : ByteArray) (l : List Fd) : ∀ (p : Nat) (M : Ms), decEnd s (toEnd (runD s l (p, 0, M))) = decEnd s (rdL s l p M) := by
  induction l with
  | nil => intro p M; rfl
  | cons f r ih =>
    intro p M
    by_cases h : f.er s p = 0
    · rw [rd_next h, ← ih]
      show decEnd s (toEnd (runD s r (stepD s f (p, 0, M)))) = _
      rw [step_ok s f p M h]
    · rw [rd_stop h, decEnd_err h]
      have h1 := step_er s f p M h
      show decEnd s (toEnd (runD s r (stepD s f (p, 0, M)))) = _
      obtain ⟨p', e', M', h2⟩ : ∃ p' e' M', stepD s f (p, 0, M) = (p', e', M') := ⟨_, _, _, rfl⟩
      rw [h2] at h1 ⊢
      have h1 : e' = f.er s p := h1
      have h3 := run_stay s r p' e' M' (by rw [h1]; exact h)
      obtain ⟨p2, e2, M2, h4⟩ : ∃ p' e' M', runD s r (p', e', M') = (p', e', M') ∨ True := ⟨0, 0, M, .inr trivial⟩
      generalize runD s r (p', e', M') = st at h3
      obtain ⟨a, b, c⟩ := st
      have h3 : b = e' := h3
      show decEnd s (a, c, b) = _
      rw [h3, h1, decEnd_err h]
theorem run_num {s : ByteArray} {f : Fd} {j : Nat} {r : List Fd} {p e n p' e' : Nat} {M : Ms} (hf : (∃ a b, f = .int j a b) ∨ (∃ a b, f = .ses j a b) ∨ f = .nam j) (h : rdN s p e = (n, p', e')) : runD s (f :: r) (p, e, M) = runD s r (p', e', M.set j n) := by
  show runD s r (stepD s f (p, e, M)) = _
  rcases hf with ⟨a, b, rfl⟩ | ⟨a, b, rfl⟩ | rfl <;> simp only [stepD, h]
theorem run_ver {s : ByteArray} {r : List Fd} {p e p' e' : Nat} {t : ByteArray} {M : Ms} (h : rdO s p e = (t, p', e')) : runD s (.ver :: r) (p, e, M) = runD s r (p', e', M.setS t) := by
  show runD s r (stepD s .ver (p, e, M)) = _
  simp only [stepD, h]

set_option maxHeartbeats 2000000 in
set_option maxRecDepth 100000 in
theorem rnumber_e (s : ByteArray) (r p e : Nat) (w : World) (hr : RdAt w r s p e) (he : e ≠ 0) :
    Calls Try.prog 24 #[.pointer (some ⟨r, 0, none⟩)] w fun e' w' => e' = .returned (.int .u64 0) ∧ w' = w := by
  obtain ⟨z0, z1, z2, z3, z4⟩ := hr.cells
  have hne : ((e : Int) != 0) = true := by simp [he]
  go_enter Try.func24, Try.ntmps24
  go_wp2
  go_ret
  exact ⟨rfl, rfl⟩
set_option maxHeartbeats 2000000 in
set_option maxRecDepth 100000 in
theorem rnumber_ok (s : ByteArray) (r p : Nat) (wz : World) (hs : s.size ≤ maxLen) (hr : RdAt wz r s p 0) (n q : Nat) (h : Hid (numA s.data.toList p = (n, q, 0))) :
    Calls Try.prog 24 #[.pointer (some ⟨r, 0, none⟩)] wz fun e' w' => e' = .returned (.int .u64 n) ∧ Chg (fun k => k = r) wz w' ∧ RdAt w' r s q 0 := by
  obtain ⟨n0, q0, e0, hg⟩ : ∃ n q e, getA s.data.toList p = (n, q, e) := ⟨_, _, _, rfl⟩
  have HG := Lib.hid (fun u => rget_at u hs hg)
  have HR := Lib.hid hr
  obtain ⟨rfl, hb, rfl, rfl⟩ : e0 = 0 ∧ n0 ≤ 4294967296 ∧ n0 = n ∧ q0 = q := by
    have h1 := h.out
    by_cases he : e0 = 0
    · subst he
      by_cases hb : 4294967296 < n0
      · rw [numA_big hg hb] at h1; simp at h1
      · rw [numA_ok hg (by omega)] at h1; simp at h1; exact ⟨rfl, by omega, h1.1, h1.2⟩
    · rw [numA_err hg he] at h1; simp at h1; exact absurd h1.2.2 he
  have hd : decide ((4294967296 : Int) < (n0 : Int)) = false := by simp; omega
  clear hg hb hs
  obtain ⟨z0, z1, z2, z3, z4⟩ := hr.cells
  go_enter Try.func24, Try.ntmps24
  go_wp2_with fail
  clear z0 z1 z2 z3 z4
  refine wp_region_held_drew (S := fun w => Below wz.heap.size wz w) (by kernel_rfl) (drewN_below2 (Nat.le_refl _) 1) (fun hHeld => ?_)
  refine wpAnyH_take (i := 0) (oi := ?o10) (v := ?v10) ?i10 (by kernel_rfl) (by kernel_rfl) (by kernel_rfl) ?q10 (Or.inl ⟨?w10, ?y10⟩) (by assumption) ?r10
  case' i10 => simp only [List.getElem?_toArray, List.getElem?_cons_succ, List.getElem?_cons_zero]
  case i10 => rfl
  case q10 => exact fun _ _ _ h => h
  case w10 => rfl
  case y10 => (intro w hSw; go_simp) <;> with_reducible rfl
  try simp only [Act.put, List.setIfInBounds_toArray, List.set_cons_zero, List.set_cons_succ]
  refine wpAnyH_take (i := 1) (oi := ?o11) (v := ?v11) ?i11 (by kernel_rfl) (by kernel_rfl) (by kernel_rfl) ?q11 (Or.inl ⟨?w11, ?y11⟩) (by assumption) ?r11
  case' i11 => simp only [List.getElem?_toArray, List.getElem?_cons_succ, List.getElem?_cons_zero]
  case i11 => rfl
  case q11 => exact fun _ _ _ h => h
  case w11 => rfl
  case y11 => (intro w hSw; go_simp) <;> with_reducible rfl
  try simp only [Act.put, List.setIfInBounds_toArray, List.set_cons_zero, List.set_cons_succ]
  refine wpAnyH_take (i := 2) (oi := ?o12) (v := ?v12) ?i12 (by kernel_rfl) (by kernel_rfl) (by kernel_rfl) ?q12 (Or.inl ⟨?w12, ?y12⟩) (by assumption) ?r12
  case' i12 => simp only [List.getElem?_toArray, List.getElem?_cons_succ, List.getElem?_cons_zero]
  case i12 => rfl
  case q12 => exact fun _ _ _ h => h
  case w12 => rfl
  case y12 => (intro w hSw; go_simp) <;> with_reducible rfl
  try simp only [Act.put, List.setIfInBounds_toArray, List.set_cons_zero, List.set_cons_succ]
  refine wpAnyH_take (i := 3) (oi := ?o13) (v := ?v13) ?i13 (by kernel_rfl) (by kernel_rfl) (by kernel_rfl) ?q13 (Or.inl ⟨?w13, ?y13⟩) (by assumption) ?r13
  case' i13 => simp only [List.getElem?_toArray, List.getElem?_cons_succ, List.getElem?_cons_zero]
  case i13 => rfl
  case q13 => exact fun _ _ _ h => h
  case w13 => rfl
  case y13 => (intro w hSw; obtain ⟨z0, z1, z2, z3, z4⟩ := (HR.out.below hSw).cells; go_simp) <;> with_reducible rfl
  try simp only [Act.put, List.setIfInBounds_toArray, List.set_cons_zero, List.set_cons_succ]
  refine wpAnyH_take (i := 4) (oi := ?o14) (v := ?v14) ?i14 (by kernel_rfl) (by kernel_rfl) (by kernel_rfl) ?q14 (Or.inl ⟨?w14, ?y14⟩) (by assumption) ?r14
  case' i14 => simp only [List.getElem?_toArray, List.getElem?_cons_succ, List.getElem?_cons_zero]
  case i14 => rfl
  case q14 => exact fun _ _ _ h => h
  case w14 => rfl
  case y14 => (intro w hSw; go_simp) <;> with_reducible rfl
  try simp only [Act.put, List.setIfInBounds_toArray, List.set_cons_zero, List.set_cons_succ]
  refine wpAnyH_take (i := 5) (oi := ?o15) (v := ?v15) ?i15 (by kernel_rfl) (by kernel_rfl) (by kernel_rfl) ?q15 (Or.inl ⟨?w15, ?y15⟩) (by assumption) ?r15
  case' i15 => simp only [List.getElem?_toArray, List.getElem?_cons_succ, List.getElem?_cons_zero]
  case i15 => rfl
  case q15 => exact fun _ _ _ h => h
  case w15 => rfl
  case y15 => (intro w hSw; go_simp) <;> with_reducible rfl
  try simp only [Act.put, List.setIfInBounds_toArray, List.set_cons_zero, List.set_cons_succ]
  refine wpAnyH_take (i := 6) (oi := ?o16) (v := ?v16) ?i16 (by kernel_rfl) (by kernel_rfl) (by kernel_rfl) ?q16 (Or.inl ⟨?w16, ?y16⟩) (by assumption) ?r16
  case' i16 => simp only [List.getElem?_toArray, List.getElem?_cons_succ, List.getElem?_cons_zero]
  case i16 => rfl
  case q16 => exact fun _ _ _ h => h
  case w16 => rfl
  case y16 => (intro w hSw; go_simp) <;> with_reducible rfl
  try simp only [Act.put, List.setIfInBounds_toArray, List.set_cons_zero, List.set_cons_succ]
  refine wpAnyH_take (i := 7) (oi := ?o17) (v := ?v17) ?i17 (by kernel_rfl) (by kernel_rfl) (by kernel_rfl) ?q17 (Or.inl ⟨?w17, ?y17⟩) (by assumption) ?r17
  case' i17 => simp only [List.getElem?_toArray, List.getElem?_cons_succ, List.getElem?_cons_zero]
  case i17 => rfl
  case q17 => exact fun _ _ _ h => h
  case w17 => rfl
  case y17 => (intro w hSw; obtain ⟨z0, z1, z2, z3, z4⟩ := (HR.out.below hSw).cells; go_simp) <;> with_reducible rfl
  try simp only [Act.put, List.setIfInBounds_toArray, List.set_cons_zero, List.set_cons_succ]
  refine wpAnyH_ready (rs := [8]) (by kernel_rfl) (by simp) ?_
  refine AllReadyH.cons (o := ?o18) ?i18 (fun K' hK => ?_) AllReadyH.nil
  case' i18 => simp only [List.getElem?_toArray, List.getElem?_cons_succ, List.getElem?_cons_zero]
  case i18 => rfl
  go_simp
  go_at_call 23
  refine (HG.out _).mono ?_
  rintro e w1 ⟨rfl, rfl⟩
  go_wp2_with fail
  refine hK.out _ _ hHeld (fun hHeld => ?_)
  clear hK K'
  try simp only [Act.put, List.setIfInBounds_toArray, List.set_cons_zero, List.set_cons_succ]
  refine wpAnyH_take (i := 9) (oi := ?o19) (v := ?v19) ?i19 (by kernel_rfl) (by kernel_rfl) (by kernel_rfl) ?q19 (Or.inl ⟨?w19, ?y19⟩) (by assumption) ?r19
  case' i19 => simp only [List.getElem?_toArray, List.getElem?_cons_succ, List.getElem?_cons_zero]
  case i19 => rfl
  case q19 => exact fun _ _ _ h => h
  case w19 => rfl
  case y19 => (intro w hSw; go_simp) <;> with_reducible rfl
  try simp only [Act.put, List.setIfInBounds_toArray, List.set_cons_zero, List.set_cons_succ]
  refine wpAnyH_take (i := 10) (oi := ?o20) (v := ?v20) ?i20 (by kernel_rfl) (by kernel_rfl) (by kernel_rfl) ?q20 (Or.inl ⟨?w20, ?y20⟩) (by assumption) ?r20
  case' i20 => simp only [List.getElem?_toArray, List.getElem?_cons_succ, List.getElem?_cons_zero]
  case i20 => rfl
  case q20 => exact fun _ _ _ h => h
  case w20 => rfl
  case y20 => (intro w hSw; go_simp) <;> with_reducible rfl
  try simp only [Act.put, List.setIfInBounds_toArray, List.set_cons_zero, List.set_cons_succ]
  refine wpAnyH_take (i := 11) (oi := ?o21) (v := ?v21) ?i21 (by kernel_rfl) (by kernel_rfl) (by kernel_rfl) ?q21 (Or.inl ⟨?w21, ?y21⟩) (by assumption) ?r21
  case' i21 => simp only [List.getElem?_toArray, List.getElem?_cons_succ, List.getElem?_cons_zero]
  case i21 => rfl
  case q21 => exact fun _ _ _ h => h
  case w21 => rfl
  case y21 => (intro w hSw; go_simp) <;> with_reducible rfl
  try simp only [Act.put, List.setIfInBounds_toArray, List.set_cons_zero, List.set_cons_succ]
  refine wpAnyH_take (i := 12) (oi := ?o22) (v := ?v22) ?i22 (by kernel_rfl) (by kernel_rfl) (by kernel_rfl) ?q22 (Or.inl ⟨?w22, ?y22⟩) (by assumption) ?r22
  case' i22 => simp only [List.getElem?_toArray, List.getElem?_cons_succ, List.getElem?_cons_zero]
  case i22 => rfl
  case q22 => exact fun _ _ _ h => h
  case w22 => rfl
  case y22 => (intro w hSw; go_simp) <;> with_reducible rfl
  try simp only [Act.put, List.setIfInBounds_toArray, List.set_cons_zero, List.set_cons_succ]
  refine wpAnyH_take (i := 13) (oi := ?o23) (v := ?v23) ?i23 (by kernel_rfl) (by kernel_rfl) (by kernel_rfl) ?q23 (Or.inl ⟨?w23, ?y23⟩) (by assumption) ?r23
  case' i23 => simp only [List.getElem?_toArray, List.getElem?_cons_succ, List.getElem?_cons_zero]
  case i23 => rfl
  case q23 => exact fun _ _ _ h => h
  case w23 => rfl
  case y23 => (intro w hSw; go_simp) <;> with_reducible rfl
  try simp only [Act.put, List.setIfInBounds_toArray, List.set_cons_zero, List.set_cons_succ]
  refine wpAnyH_take (i := 14) (oi := ?o24) (v := ?v24) ?i24 (by kernel_rfl) (by kernel_rfl) (by kernel_rfl) ?q24 (Or.inl ⟨?w24, ?y24⟩) (by assumption) ?r24
  case' i24 => simp only [List.getElem?_toArray, List.getElem?_cons_succ, List.getElem?_cons_zero]
  case i24 => rfl
  case q24 => exact fun _ _ _ h => h
  case w24 => rfl
  case y24 => (intro w hSw; go_simp) <;> with_reducible rfl
  try simp only [Act.put, List.setIfInBounds_toArray, List.set_cons_zero, List.set_cons_succ]
  refine wpAnyH_take (i := 15) (oi := ?o25) (v := ?v25) ?i25 (by kernel_rfl) (by kernel_rfl) (by kernel_rfl) ?q25 (Or.inl ⟨?w25, ?y25⟩) (by assumption) ?r25
  case' i25 => simp only [List.getElem?_toArray, List.getElem?_cons_succ, List.getElem?_cons_zero]
  case i25 => rfl
  case q25 => exact fun _ _ _ h => h
  case w25 => rfl
  case y25 => (intro w hSw; go_simp) <;> with_reducible rfl
  try simp only [Act.put, List.setIfInBounds_toArray, List.set_cons_zero, List.set_cons_succ]
  refine wpAnyH_done (by kernel_rfl) ?_ _
  have HB := Lib.hid hHeld
  have HR1 := Lib.hid (HR.out.below hHeld)
  clear hHeld
  generalize wz.drew = w1 at HB HR1 ⊢
  obtain ⟨z0, z1, z2, z3, z4⟩ := HR1.out.cells
  go_wp2
  go_ret
  exact ⟨rfl, ((Chg.of_below HB.out).trans (Chg.setCell _ _ _ _)).trans (Chg.setCell _ _ _ _), row_set 1 (.int .i64 q0) (row_set 2 (.int .i64 0) HR1.out)⟩
set_option maxHeartbeats 2000000 in
set_option maxRecDepth 100000 in
theorem rnumber_err (s : ByteArray) (r p : Nat) (wz : World) (hs : s.size ≤ maxLen) (hr : RdAt wz r s p 0) (E : Nat) (h : Hid (numA s.data.toList p = (0, 0, E))) (hE : E ≠ 0) :
    Calls Try.prog 24 #[.pointer (some ⟨r, 0, none⟩)] wz fun e' w' => e' = .returned (.int .u64 0) ∧ Chg (fun k => k = r) wz w' ∧ RdAt w' r s p E := by
  obtain ⟨n0, q0, e0, hg⟩ : ∃ n q e, getA s.data.toList p = (n, q, e) := ⟨_, _, _, rfl⟩
  have HG := Lib.hid (fun u => rget_at u hs hg)
  have HR := Lib.hid hr
  by_cases he : e0 = 0
  · subst he
    have hb : 4294967296 < n0 := by
      apply Classical.byContradiction; intro hb
      have h1 := h.out; rw [numA_ok hg (by omega)] at h1; simp at h1; exact hE h1.2.2.symm
    obtain rfl : E = 3 := by have h1 := h.out; rw [numA_big hg hb] at h1; simp at h1; exact h1.symm
    have hd : decide ((4294967296 : Int) < (n0 : Int)) = true := by simp; omega
    clear hg hs hb hE h
    obtain ⟨z0, z1, z2, z3, z4⟩ := hr.cells
    go_enter Try.func24, Try.ntmps24
    go_wp2_with fail
    clear z0 z1 z2 z3 z4
    refine wp_region_held_drew (S := fun w => Below wz.heap.size wz w) (by kernel_rfl) (drewN_below2 (Nat.le_refl _) 1) (fun hHeld => ?_)
    refine wpAnyH_take (i := 0) (oi := ?o26) (v := ?v26) ?i26 (by kernel_rfl) (by kernel_rfl) (by kernel_rfl) ?q26 (Or.inl ⟨?w26, ?y26⟩) (by assumption) ?r26
    case' i26 => simp only [List.getElem?_toArray, List.getElem?_cons_succ, List.getElem?_cons_zero]
    case i26 => rfl
    case q26 => exact fun _ _ _ h => h
    case w26 => rfl
    case y26 => (intro w hSw; go_simp) <;> with_reducible rfl
    try simp only [Act.put, List.setIfInBounds_toArray, List.set_cons_zero, List.set_cons_succ]
    refine wpAnyH_take (i := 1) (oi := ?o27) (v := ?v27) ?i27 (by kernel_rfl) (by kernel_rfl) (by kernel_rfl) ?q27 (Or.inl ⟨?w27, ?y27⟩) (by assumption) ?r27
    case' i27 => simp only [List.getElem?_toArray, List.getElem?_cons_succ, List.getElem?_cons_zero]
    case i27 => rfl
    case q27 => exact fun _ _ _ h => h
    case w27 => rfl
    case y27 => (intro w hSw; go_simp) <;> with_reducible rfl
    try simp only [Act.put, List.setIfInBounds_toArray, List.set_cons_zero, List.set_cons_succ]
    refine wpAnyH_take (i := 2) (oi := ?o28) (v := ?v28) ?i28 (by kernel_rfl) (by kernel_rfl) (by kernel_rfl) ?q28 (Or.inl ⟨?w28, ?y28⟩) (by assumption) ?r28
    case' i28 => simp only [List.getElem?_toArray, List.getElem?_cons_succ, List.getElem?_cons_zero]
    case i28 => rfl
    case q28 => exact fun _ _ _ h => h
    case w28 => rfl
    case y28 => (intro w hSw; go_simp) <;> with_reducible rfl
    try simp only [Act.put, List.setIfInBounds_toArray, List.set_cons_zero, List.set_cons_succ]
    refine wpAnyH_take (i := 3) (oi := ?o29) (v := ?v29) ?i29 (by kernel_rfl) (by kernel_rfl) (by kernel_rfl) ?q29 (Or.inl ⟨?w29, ?y29⟩) (by assumption) ?r29
    case' i29 => simp only [List.getElem?_toArray, List.getElem?_cons_succ, List.getElem?_cons_zero]
    case i29 => rfl
    case q29 => exact fun _ _ _ h => h
    case w29 => rfl
    case y29 => (intro w hSw; obtain ⟨z0, z1, z2, z3, z4⟩ := (HR.out.below hSw).cells; go_simp) <;> with_reducible rfl
    try simp only [Act.put, List.setIfInBounds_toArray, List.set_cons_zero, List.set_cons_succ]
    refine wpAnyH_take (i := 4) (oi := ?o30) (v := ?v30) ?i30 (by kernel_rfl) (by kernel_rfl) (by kernel_rfl) ?q30 (Or.inl ⟨?w30, ?y30⟩) (by assumption) ?r30
    case' i30 => simp only [List.getElem?_toArray, List.getElem?_cons_succ, List.getElem?_cons_zero]
    case i30 => rfl
    case q30 => exact fun _ _ _ h => h
    case w30 => rfl
    case y30 => (intro w hSw; go_simp) <;> with_reducible rfl
    try simp only [Act.put, List.setIfInBounds_toArray, List.set_cons_zero, List.set_cons_succ]
    refine wpAnyH_take (i := 5) (oi := ?o31) (v := ?v31) ?i31 (by kernel_rfl) (by kernel_rfl) (by kernel_rfl) ?q31 (Or.inl ⟨?w31, ?y31⟩) (by assumption) ?r31
    case' i31 => simp only [List.getElem?_toArray, List.getElem?_cons_succ, List.getElem?_cons_zero]
    case i31 => rfl
    case q31 => exact fun _ _ _ h => h
    case w31 => rfl
    case y31 => (intro w hSw; go_simp) <;> with_reducible rfl
    try simp only [Act.put, List.setIfInBounds_toArray, List.set_cons_zero, List.set_cons_succ]
    refine wpAnyH_take (i := 6) (oi := ?o32) (v := ?v32) ?i32 (by kernel_rfl) (by kernel_rfl) (by kernel_rfl) ?q32 (Or.inl ⟨?w32, ?y32⟩) (by assumption) ?r32
    case' i32 => simp only [List.getElem?_toArray, List.getElem?_cons_succ, List.getElem?_cons_zero]
    case i32 => rfl
    case q32 => exact fun _ _ _ h => h
    case w32 => rfl
    case y32 => (intro w hSw; go_simp) <;> with_reducible rfl
    try simp only [Act.put, List.setIfInBounds_toArray, List.set_cons_zero, List.set_cons_succ]
    refine wpAnyH_take (i := 7) (oi := ?o33) (v := ?v33) ?i33 (by kernel_rfl) (by kernel_rfl) (by kernel_rfl) ?q33 (Or.inl ⟨?w33, ?y33⟩) (by assumption) ?r33
    case' i33 => simp only [List.getElem?_toArray, List.getElem?_cons_succ, List.getElem?_cons_zero]
    case i33 => rfl
    case q33 => exact fun _ _ _ h => h
    case w33 => rfl
    case y33 => (intro w hSw; obtain ⟨z0, z1, z2, z3, z4⟩ := (HR.out.below hSw).cells; go_simp) <;> with_reducible rfl
    try simp only [Act.put, List.setIfInBounds_toArray, List.set_cons_zero, List.set_cons_succ]
    refine wpAnyH_ready (rs := [8]) (by kernel_rfl) (by simp) ?_
    refine AllReadyH.cons (o := ?o34) ?i34 (fun K' hK => ?_) AllReadyH.nil
    case' i34 => simp only [List.getElem?_toArray, List.getElem?_cons_succ, List.getElem?_cons_zero]
    case i34 => rfl
    go_simp
    go_at_call 23
    refine (HG.out _).mono ?_
    rintro e w1 ⟨rfl, rfl⟩
    go_wp2_with fail
    refine hK.out _ _ hHeld (fun hHeld => ?_)
    clear hK K'
    try simp only [Act.put, List.setIfInBounds_toArray, List.set_cons_zero, List.set_cons_succ]
    refine wpAnyH_take (i := 9) (oi := ?o35) (v := ?v35) ?i35 (by kernel_rfl) (by kernel_rfl) (by kernel_rfl) ?q35 (Or.inl ⟨?w35, ?y35⟩) (by assumption) ?r35
    case' i35 => simp only [List.getElem?_toArray, List.getElem?_cons_succ, List.getElem?_cons_zero]
    case i35 => rfl
    case q35 => exact fun _ _ _ h => h
    case w35 => rfl
    case y35 => (intro w hSw; go_simp) <;> with_reducible rfl
    try simp only [Act.put, List.setIfInBounds_toArray, List.set_cons_zero, List.set_cons_succ]
    refine wpAnyH_take (i := 10) (oi := ?o36) (v := ?v36) ?i36 (by kernel_rfl) (by kernel_rfl) (by kernel_rfl) ?q36 (Or.inl ⟨?w36, ?y36⟩) (by assumption) ?r36
    case' i36 => simp only [List.getElem?_toArray, List.getElem?_cons_succ, List.getElem?_cons_zero]
    case i36 => rfl
    case q36 => exact fun _ _ _ h => h
    case w36 => rfl
    case y36 => (intro w hSw; go_simp) <;> with_reducible rfl
    try simp only [Act.put, List.setIfInBounds_toArray, List.set_cons_zero, List.set_cons_succ]
    refine wpAnyH_take (i := 11) (oi := ?o37) (v := ?v37) ?i37 (by kernel_rfl) (by kernel_rfl) (by kernel_rfl) ?q37 (Or.inl ⟨?w37, ?y37⟩) (by assumption) ?r37
    case' i37 => simp only [List.getElem?_toArray, List.getElem?_cons_succ, List.getElem?_cons_zero]
    case i37 => rfl
    case q37 => exact fun _ _ _ h => h
    case w37 => rfl
    case y37 => (intro w hSw; go_simp) <;> with_reducible rfl
    try simp only [Act.put, List.setIfInBounds_toArray, List.set_cons_zero, List.set_cons_succ]
    refine wpAnyH_take (i := 12) (oi := ?o38) (v := ?v38) ?i38 (by kernel_rfl) (by kernel_rfl) (by kernel_rfl) ?q38 (Or.inl ⟨?w38, ?y38⟩) (by assumption) ?r38
    case' i38 => simp only [List.getElem?_toArray, List.getElem?_cons_succ, List.getElem?_cons_zero]
    case i38 => rfl
    case q38 => exact fun _ _ _ h => h
    case w38 => rfl
    case y38 => (intro w hSw; go_simp) <;> with_reducible rfl
    try simp only [Act.put, List.setIfInBounds_toArray, List.set_cons_zero, List.set_cons_succ]
    refine wpAnyH_take (i := 13) (oi := ?o39) (v := ?v39) ?i39 (by kernel_rfl) (by kernel_rfl) (by kernel_rfl) ?q39 (Or.inl ⟨?w39, ?y39⟩) (by assumption) ?r39
    case' i39 => simp only [List.getElem?_toArray, List.getElem?_cons_succ, List.getElem?_cons_zero]
    case i39 => rfl
    case q39 => exact fun _ _ _ h => h
    case w39 => rfl
    case y39 => (intro w hSw; go_simp) <;> with_reducible rfl
    try simp only [Act.put, List.setIfInBounds_toArray, List.set_cons_zero, List.set_cons_succ]
    refine wpAnyH_take (i := 14) (oi := ?o40) (v := ?v40) ?i40 (by kernel_rfl) (by kernel_rfl) (by kernel_rfl) ?q40 (Or.inl ⟨?w40, ?y40⟩) (by assumption) ?r40
    case' i40 => simp only [List.getElem?_toArray, List.getElem?_cons_succ, List.getElem?_cons_zero]
    case i40 => rfl
    case q40 => exact fun _ _ _ h => h
    case w40 => rfl
    case y40 => (intro w hSw; go_simp) <;> with_reducible rfl
    try simp only [Act.put, List.setIfInBounds_toArray, List.set_cons_zero, List.set_cons_succ]
    refine wpAnyH_take (i := 15) (oi := ?o41) (v := ?v41) ?i41 (by kernel_rfl) (by kernel_rfl) (by kernel_rfl) ?q41 (Or.inl ⟨?w41, ?y41⟩) (by assumption) ?r41
    case' i41 => simp only [List.getElem?_toArray, List.getElem?_cons_succ, List.getElem?_cons_zero]
    case i41 => rfl
    case q41 => exact fun _ _ _ h => h
    case w41 => rfl
    case y41 => (intro w hSw; go_simp) <;> with_reducible rfl
    try simp only [Act.put, List.setIfInBounds_toArray, List.set_cons_zero, List.set_cons_succ]
    refine wpAnyH_done (by kernel_rfl) ?_ _
    have HB := Lib.hid hHeld
    have HR1 := Lib.hid (HR.out.below hHeld)
    clear hHeld
    generalize wz.drew = w1 at HB HR1 ⊢
    obtain ⟨z0, z1, z2, z3, z4⟩ := HR1.out.cells
    go_wp2
    go_ret
    exact ⟨rfl, (Chg.of_below HB.out).trans (Chg.setCell _ _ _ _), row_set 2 (.int .i64 3) HR1.out⟩
  · obtain rfl : E = e0 := by have h1 := h.out; rw [numA_err hg he] at h1; simp at h1; exact h1.symm
    have hne : ((E : Int) != 0) = true := by simp [he]
    have hne2 : ((E : Int) == 0) = false := by simp [he]
    clear hg hs he hE h
    obtain ⟨z0, z1, z2, z3, z4⟩ := hr.cells
    go_enter Try.func24, Try.ntmps24
    go_wp2_with fail
    clear z0 z1 z2 z3 z4
    refine wp_region_held_drew (S := fun w => Below wz.heap.size wz w) (by kernel_rfl) (drewN_below2 (Nat.le_refl _) 1) (fun hHeld => ?_)
    refine wpAnyH_take (i := 0) (oi := ?o42) (v := ?v42) ?i42 (by kernel_rfl) (by kernel_rfl) (by kernel_rfl) ?q42 (Or.inl ⟨?w42, ?y42⟩) (by assumption) ?r42
    case' i42 => simp only [List.getElem?_toArray, List.getElem?_cons_succ, List.getElem?_cons_zero]
    case i42 => rfl
    case q42 => exact fun _ _ _ h => h
    case w42 => rfl
    case y42 => (intro w hSw; go_simp) <;> with_reducible rfl
    try simp only [Act.put, List.setIfInBounds_toArray, List.set_cons_zero, List.set_cons_succ]
    refine wpAnyH_take (i := 1) (oi := ?o43) (v := ?v43) ?i43 (by kernel_rfl) (by kernel_rfl) (by kernel_rfl) ?q43 (Or.inl ⟨?w43, ?y43⟩) (by assumption) ?r43
    case' i43 => simp only [List.getElem?_toArray, List.getElem?_cons_succ, List.getElem?_cons_zero]
    case i43 => rfl
    case q43 => exact fun _ _ _ h => h
    case w43 => rfl
    case y43 => (intro w hSw; go_simp) <;> with_reducible rfl
    try simp only [Act.put, List.setIfInBounds_toArray, List.set_cons_zero, List.set_cons_succ]
    refine wpAnyH_take (i := 2) (oi := ?o44) (v := ?v44) ?i44 (by kernel_rfl) (by kernel_rfl) (by kernel_rfl) ?q44 (Or.inl ⟨?w44, ?y44⟩) (by assumption) ?r44
    case' i44 => simp only [List.getElem?_toArray, List.getElem?_cons_succ, List.getElem?_cons_zero]
    case i44 => rfl
    case q44 => exact fun _ _ _ h => h
    case w44 => rfl
    case y44 => (intro w hSw; go_simp) <;> with_reducible rfl
    try simp only [Act.put, List.setIfInBounds_toArray, List.set_cons_zero, List.set_cons_succ]
    refine wpAnyH_take (i := 3) (oi := ?o45) (v := ?v45) ?i45 (by kernel_rfl) (by kernel_rfl) (by kernel_rfl) ?q45 (Or.inl ⟨?w45, ?y45⟩) (by assumption) ?r45
    case' i45 => simp only [List.getElem?_toArray, List.getElem?_cons_succ, List.getElem?_cons_zero]
    case i45 => rfl
    case q45 => exact fun _ _ _ h => h
    case w45 => rfl
    case y45 => (intro w hSw; obtain ⟨z0, z1, z2, z3, z4⟩ := (HR.out.below hSw).cells; go_simp) <;> with_reducible rfl
    try simp only [Act.put, List.setIfInBounds_toArray, List.set_cons_zero, List.set_cons_succ]
    refine wpAnyH_take (i := 4) (oi := ?o46) (v := ?v46) ?i46 (by kernel_rfl) (by kernel_rfl) (by kernel_rfl) ?q46 (Or.inl ⟨?w46, ?y46⟩) (by assumption) ?r46
    case' i46 => simp only [List.getElem?_toArray, List.getElem?_cons_succ, List.getElem?_cons_zero]
    case i46 => rfl
    case q46 => exact fun _ _ _ h => h
    case w46 => rfl
    case y46 => (intro w hSw; go_simp) <;> with_reducible rfl
    try simp only [Act.put, List.setIfInBounds_toArray, List.set_cons_zero, List.set_cons_succ]
    refine wpAnyH_take (i := 5) (oi := ?o47) (v := ?v47) ?i47 (by kernel_rfl) (by kernel_rfl) (by kernel_rfl) ?q47 (Or.inl ⟨?w47, ?y47⟩) (by assumption) ?r47
    case' i47 => simp only [List.getElem?_toArray, List.getElem?_cons_succ, List.getElem?_cons_zero]
    case i47 => rfl
    case q47 => exact fun _ _ _ h => h
    case w47 => rfl
    case y47 => (intro w hSw; go_simp) <;> with_reducible rfl
    try simp only [Act.put, List.setIfInBounds_toArray, List.set_cons_zero, List.set_cons_succ]
    refine wpAnyH_take (i := 6) (oi := ?o48) (v := ?v48) ?i48 (by kernel_rfl) (by kernel_rfl) (by kernel_rfl) ?q48 (Or.inl ⟨?w48, ?y48⟩) (by assumption) ?r48
    case' i48 => simp only [List.getElem?_toArray, List.getElem?_cons_succ, List.getElem?_cons_zero]
    case i48 => rfl
    case q48 => exact fun _ _ _ h => h
    case w48 => rfl
    case y48 => (intro w hSw; go_simp) <;> with_reducible rfl
    try simp only [Act.put, List.setIfInBounds_toArray, List.set_cons_zero, List.set_cons_succ]
    refine wpAnyH_take (i := 7) (oi := ?o49) (v := ?v49) ?i49 (by kernel_rfl) (by kernel_rfl) (by kernel_rfl) ?q49 (Or.inl ⟨?w49, ?y49⟩) (by assumption) ?r49
    case' i49 => simp only [List.getElem?_toArray, List.getElem?_cons_succ, List.getElem?_cons_zero]
    case i49 => rfl
    case q49 => exact fun _ _ _ h => h
    case w49 => rfl
    case y49 => (intro w hSw; obtain ⟨z0, z1, z2, z3, z4⟩ := (HR.out.below hSw).cells; go_simp) <;> with_reducible rfl
    try simp only [Act.put, List.setIfInBounds_toArray, List.set_cons_zero, List.set_cons_succ]
    refine wpAnyH_ready (rs := [8]) (by kernel_rfl) (by simp) ?_
    refine AllReadyH.cons (o := ?o50) ?i50 (fun K' hK => ?_) AllReadyH.nil
    case' i50 => simp only [List.getElem?_toArray, List.getElem?_cons_succ, List.getElem?_cons_zero]
    case i50 => rfl
    go_simp
    go_at_call 23
    refine (HG.out _).mono ?_
    rintro e w1 ⟨rfl, rfl⟩
    go_wp2_with fail
    refine hK.out _ _ hHeld (fun hHeld => ?_)
    clear hK K'
    try simp only [Act.put, List.setIfInBounds_toArray, List.set_cons_zero, List.set_cons_succ]
    refine wpAnyH_take (i := 9) (oi := ?o51) (v := ?v51) ?i51 (by kernel_rfl) (by kernel_rfl) (by kernel_rfl) ?q51 (Or.inl ⟨?w51, ?y51⟩) (by assumption) ?r51
    case' i51 => simp only [List.getElem?_toArray, List.getElem?_cons_succ, List.getElem?_cons_zero]
    case i51 => rfl
    case q51 => exact fun _ _ _ h => h
    case w51 => rfl
    case y51 => (intro w hSw; go_simp) <;> with_reducible rfl
    try simp only [Act.put, List.setIfInBounds_toArray, List.set_cons_zero, List.set_cons_succ]
    refine wpAnyH_take (i := 10) (oi := ?o52) (v := ?v52) ?i52 (by kernel_rfl) (by kernel_rfl) (by kernel_rfl) ?q52 (Or.inl ⟨?w52, ?y52⟩) (by assumption) ?r52
    case' i52 => simp only [List.getElem?_toArray, List.getElem?_cons_succ, List.getElem?_cons_zero]
    case i52 => rfl
    case q52 => exact fun _ _ _ h => h
    case w52 => rfl
    case y52 => (intro w hSw; go_simp) <;> with_reducible rfl
    try simp only [Act.put, List.setIfInBounds_toArray, List.set_cons_zero, List.set_cons_succ]
    refine wpAnyH_take (i := 11) (oi := ?o53) (v := ?v53) ?i53 (by kernel_rfl) (by kernel_rfl) (by kernel_rfl) ?q53 (Or.inl ⟨?w53, ?y53⟩) (by assumption) ?r53
    case' i53 => simp only [List.getElem?_toArray, List.getElem?_cons_succ, List.getElem?_cons_zero]
    case i53 => rfl
    case q53 => exact fun _ _ _ h => h
    case w53 => rfl
    case y53 => (intro w hSw; go_simp) <;> with_reducible rfl
    try simp only [Act.put, List.setIfInBounds_toArray, List.set_cons_zero, List.set_cons_succ]
    refine wpAnyH_take (i := 12) (oi := ?o54) (v := ?v54) ?i54 (by kernel_rfl) (by kernel_rfl) (by kernel_rfl) ?q54 (Or.inl ⟨?w54, ?y54⟩) (by assumption) ?r54
    case' i54 => simp only [List.getElem?_toArray, List.getElem?_cons_succ, List.getElem?_cons_zero]
    case i54 => rfl
    case q54 => exact fun _ _ _ h => h
    case w54 => rfl
    case y54 => (intro w hSw; go_simp) <;> with_reducible rfl
    try simp only [Act.put, List.setIfInBounds_toArray, List.set_cons_zero, List.set_cons_succ]
    refine wpAnyH_take (i := 13) (oi := ?o55) (v := ?v55) ?i55 (by kernel_rfl) (by kernel_rfl) (by kernel_rfl) ?q55 (Or.inl ⟨?w55, ?y55⟩) (by assumption) ?r55
    case' i55 => simp only [List.getElem?_toArray, List.getElem?_cons_succ, List.getElem?_cons_zero]
    case i55 => rfl
    case q55 => exact fun _ _ _ h => h
    case w55 => rfl
    case y55 => (intro w hSw; go_simp) <;> with_reducible rfl
    try simp only [Act.put, List.setIfInBounds_toArray, List.set_cons_zero, List.set_cons_succ]
    refine wpAnyH_take (i := 14) (oi := ?o56) (v := ?v56) ?i56 (by kernel_rfl) (by kernel_rfl) (by kernel_rfl) ?q56 (Or.inl ⟨?w56, ?y56⟩) (by assumption) ?r56
    case' i56 => simp only [List.getElem?_toArray, List.getElem?_cons_succ, List.getElem?_cons_zero]
    case i56 => rfl
    case q56 => exact fun _ _ _ h => h
    case w56 => rfl
    case y56 => (intro w hSw; go_simp) <;> with_reducible rfl
    try simp only [Act.put, List.setIfInBounds_toArray, List.set_cons_zero, List.set_cons_succ]
    refine wpAnyH_take (i := 15) (oi := ?o57) (v := ?v57) ?i57 (by kernel_rfl) (by kernel_rfl) (by kernel_rfl) ?q57 (Or.inl ⟨?w57, ?y57⟩) (by assumption) ?r57
    case' i57 => simp only [List.getElem?_toArray, List.getElem?_cons_succ, List.getElem?_cons_zero]
    case i57 => rfl
    case q57 => exact fun _ _ _ h => h
    case w57 => rfl
    case y57 => (intro w hSw; go_simp) <;> with_reducible rfl
    try simp only [Act.put, List.setIfInBounds_toArray, List.set_cons_zero, List.set_cons_succ]
    refine wpAnyH_done (by kernel_rfl) ?_ _
    have HB := Lib.hid hHeld
    have HR1 := Lib.hid (HR.out.below hHeld)
    clear hHeld
    generalize wz.drew = w1 at HB HR1 ⊢
    obtain ⟨z0, z1, z2, z3, z4⟩ := HR1.out.cells
    go_wp2
    go_ret
    exact ⟨rfl, (Chg.of_below HB.out).trans (Chg.setCell _ _ _ _), row_set 2 (.int .i64 E) HR1.out⟩
theorem rnumber_c (s : ByteArray) (r p e : Nat) (w : World) (hs : s.size ≤ maxLen) (hr : RdAt w r s p e) (n p' e' : Nat) (h : rdN s p e = (n, p', e')) :
    Calls Try.prog 24 #[.pointer (some ⟨r, 0, none⟩)] w fun x w' => x = .returned (.int .u64 n) ∧ Chg (fun k => k = r) w w' ∧ RdAt w' r s p' e' := by
  by_cases he : e = 0
  · subst he
    obtain ⟨a, b, E, hn⟩ : ∃ a b E, numA s.data.toList p = (a, b, E) := ⟨_, _, _, rfl⟩
    by_cases hE : E = 0
    · subst hE
      rw [rdN_ok hn] at h
      injection h with h1 h2; injection h2 with h2 h3
      subst h1 h2 h3
      exact rnumber_ok s r p w hs hr _ _ (Lib.hid hn)
    · have h0 := numA_zero s.data.toList p (by rw [hn]; exact hE)
      rw [rdN_err hn hE] at h
      injection h with h1 h2; injection h2 with h2 h3
      subst h1 h2 h3
      exact rnumber_err s r p w hs hr _ (Lib.hid (by rw [h0, hn])) hE
  · rw [rdN_e he] at h
    injection h with h1 h2; injection h2 with h2 h3
    subst h1 h2 h3
    exact (rnumber_e s r p e w hr he).mono fun x w' ⟨h1, h2⟩ => by subst h2; exact ⟨h1, Chg.of_below (Below.refl _ _), hr⟩
set_option maxHeartbeats 2000000 in
set_option maxRecDepth 100000 in
theorem roffer_e (s : ByteArray) (r p e : Nat) (w : World) (hr : RdAt w r s p e) (he : e ≠ 0) :
    Calls Try.prog 25 #[.pointer (some ⟨r, 0, none⟩)] w fun e' w' => e' = .returned (.string ⟨#[]⟩) ∧ w' = w := by
  obtain ⟨z0, z1, z2, z3, z4⟩ := hr.cells
  have hne : ((e : Int) != 0) = true := by simp [he]
  go_enter Try.func25, Try.ntmps25
  go_wp2
  go_ret
  exact ⟨rfl, rfl⟩
set_option maxHeartbeats 2000000 in
set_option maxRecDepth 100000 in
theorem roffer_0 (s : ByteArray) (r p : Nat) (wz : World) (hs : s.size ≤ 1000000) (hr : RdAt wz r s p 0) (t : ByteArray) (q E : Nat) (h : Hid (rdO s p 0 = (t, q, E))) :
    Calls Try.prog 25 #[.pointer (some ⟨r, 0, none⟩)] wz fun e' w' => e' = .returned (.string t) ∧ Chg (fun k => k = r) wz w' ∧ RdAt w' r s q E := by
  have h1 := h.out
  rw [rdO, if_pos rfl] at h1
  injection h1 with h1 h2; injection h2 with h2 h3
  have HG : Hid (∀ u, Calls Try.prog 37 #[.string s, .int .i64 p, .int .i64 8] u fun e w' => e = .returned (.tuple #[.string t, .int .i64 q, .int .i64 E]) ∧ Below u.heap.size u w') := Lib.hid (fun u => (rtext_any s p 8 u hs (by omega) (by omega)).mono fun e w' ⟨he, hb⟩ => ⟨by rw [he, h1]; simp [tP, tE, h2, h3], hb⟩)
  have HR := Lib.hid hr
  obtain ⟨z0, z1, z2, z3, z4⟩ := hr.cells
  clear h1 h2 h3 hs h hr
  go_enter Try.func25, Try.ntmps25
  go_wp2_with fail
  clear z0 z1 z2 z3 z4
  refine wp_region_held_drew (S := fun w => Below wz.heap.size wz w) (by kernel_rfl) (drewN_below2 (Nat.le_refl _) 1) (fun hHeld => ?_)
  refine wpAnyH_take (i := 0) (oi := ?o58) (v := ?v58) ?i58 (by kernel_rfl) (by kernel_rfl) (by kernel_rfl) ?q58 (Or.inl ⟨?w58, ?y58⟩) (by assumption) ?r58
  case' i58 => simp only [List.getElem?_toArray, List.getElem?_cons_succ, List.getElem?_cons_zero]
  case i58 => rfl
  case q58 => exact fun _ _ _ h => h
  case w58 => rfl
  case y58 => (intro w hSw; go_simp) <;> with_reducible rfl
  try simp only [Act.put, List.setIfInBounds_toArray, List.set_cons_zero, List.set_cons_succ]
  refine wpAnyH_take (i := 1) (oi := ?o59) (v := ?v59) ?i59 (by kernel_rfl) (by kernel_rfl) (by kernel_rfl) ?q59 (Or.inl ⟨?w59, ?y59⟩) (by assumption) ?r59
  case' i59 => simp only [List.getElem?_toArray, List.getElem?_cons_succ, List.getElem?_cons_zero]
  case i59 => rfl
  case q59 => exact fun _ _ _ h => h
  case w59 => rfl
  case y59 => (intro w hSw; go_simp) <;> with_reducible rfl
  try simp only [Act.put, List.setIfInBounds_toArray, List.set_cons_zero, List.set_cons_succ]
  refine wpAnyH_take (i := 2) (oi := ?o60) (v := ?v60) ?i60 (by kernel_rfl) (by kernel_rfl) (by kernel_rfl) ?q60 (Or.inl ⟨?w60, ?y60⟩) (by assumption) ?r60
  case' i60 => simp only [List.getElem?_toArray, List.getElem?_cons_succ, List.getElem?_cons_zero]
  case i60 => rfl
  case q60 => exact fun _ _ _ h => h
  case w60 => rfl
  case y60 => (intro w hSw; go_simp) <;> with_reducible rfl
  try simp only [Act.put, List.setIfInBounds_toArray, List.set_cons_zero, List.set_cons_succ]
  refine wpAnyH_take (i := 3) (oi := ?o61) (v := ?v61) ?i61 (by kernel_rfl) (by kernel_rfl) (by kernel_rfl) ?q61 (Or.inl ⟨?w61, ?y61⟩) (by assumption) ?r61
  case' i61 => simp only [List.getElem?_toArray, List.getElem?_cons_succ, List.getElem?_cons_zero]
  case i61 => rfl
  case q61 => exact fun _ _ _ h => h
  case w61 => rfl
  case y61 => (intro w hSw; obtain ⟨z0, z1, z2, z3, z4⟩ := (HR.out.below hSw).cells; go_simp) <;> with_reducible rfl
  try simp only [Act.put, List.setIfInBounds_toArray, List.set_cons_zero, List.set_cons_succ]
  refine wpAnyH_take (i := 4) (oi := ?o62) (v := ?v62) ?i62 (by kernel_rfl) (by kernel_rfl) (by kernel_rfl) ?q62 (Or.inl ⟨?w62, ?y62⟩) (by assumption) ?r62
  case' i62 => simp only [List.getElem?_toArray, List.getElem?_cons_succ, List.getElem?_cons_zero]
  case i62 => rfl
  case q62 => exact fun _ _ _ h => h
  case w62 => rfl
  case y62 => (intro w hSw; go_simp) <;> with_reducible rfl
  try simp only [Act.put, List.setIfInBounds_toArray, List.set_cons_zero, List.set_cons_succ]
  refine wpAnyH_take (i := 5) (oi := ?o63) (v := ?v63) ?i63 (by kernel_rfl) (by kernel_rfl) (by kernel_rfl) ?q63 (Or.inl ⟨?w63, ?y63⟩) (by assumption) ?r63
  case' i63 => simp only [List.getElem?_toArray, List.getElem?_cons_succ, List.getElem?_cons_zero]
  case i63 => rfl
  case q63 => exact fun _ _ _ h => h
  case w63 => rfl
  case y63 => (intro w hSw; go_simp) <;> with_reducible rfl
  try simp only [Act.put, List.setIfInBounds_toArray, List.set_cons_zero, List.set_cons_succ]
  refine wpAnyH_take (i := 6) (oi := ?o64) (v := ?v64) ?i64 (by kernel_rfl) (by kernel_rfl) (by kernel_rfl) ?q64 (Or.inl ⟨?w64, ?y64⟩) (by assumption) ?r64
  case' i64 => simp only [List.getElem?_toArray, List.getElem?_cons_succ, List.getElem?_cons_zero]
  case i64 => rfl
  case q64 => exact fun _ _ _ h => h
  case w64 => rfl
  case y64 => (intro w hSw; go_simp) <;> with_reducible rfl
  try simp only [Act.put, List.setIfInBounds_toArray, List.set_cons_zero, List.set_cons_succ]
  refine wpAnyH_take (i := 7) (oi := ?o65) (v := ?v65) ?i65 (by kernel_rfl) (by kernel_rfl) (by kernel_rfl) ?q65 (Or.inl ⟨?w65, ?y65⟩) (by assumption) ?r65
  case' i65 => simp only [List.getElem?_toArray, List.getElem?_cons_succ, List.getElem?_cons_zero]
  case i65 => rfl
  case q65 => exact fun _ _ _ h => h
  case w65 => rfl
  case y65 => (intro w hSw; obtain ⟨z0, z1, z2, z3, z4⟩ := (HR.out.below hSw).cells; go_simp) <;> with_reducible rfl
  try simp only [Act.put, List.setIfInBounds_toArray, List.set_cons_zero, List.set_cons_succ]
  refine wpAnyH_ready (rs := [8]) (by kernel_rfl) (by simp) ?_
  refine AllReadyH.cons (o := ?o66) ?i66 (fun K' hK => ?_) AllReadyH.nil
  case' i66 => simp only [List.getElem?_toArray, List.getElem?_cons_succ, List.getElem?_cons_zero]
  case i66 => rfl
  go_simp
  go_at_call 37
  refine (HG.out _).mono ?_
  rintro e w1 ⟨rfl, hb1⟩
  have hS1 := hHeld.trans (hb1.mono hHeld.size)
  clear hb1
  go_wp2_with fail
  refine hK.out _ _ hS1 (fun hHeld => ?_)
  clear hK K'
  try simp only [Act.put, List.setIfInBounds_toArray, List.set_cons_zero, List.set_cons_succ]
  refine wpAnyH_take (i := 9) (oi := ?o67) (v := ?v67) ?i67 (by kernel_rfl) (by kernel_rfl) (by kernel_rfl) ?q67 (Or.inl ⟨?w67, ?y67⟩) (by assumption) ?r67
  case' i67 => simp only [List.getElem?_toArray, List.getElem?_cons_succ, List.getElem?_cons_zero]
  case i67 => rfl
  case q67 => exact fun _ _ _ h => h
  case w67 => rfl
  case y67 => (intro w hSw; go_simp) <;> with_reducible rfl
  try simp only [Act.put, List.setIfInBounds_toArray, List.set_cons_zero, List.set_cons_succ]
  refine wpAnyH_take (i := 10) (oi := ?o68) (v := ?v68) ?i68 (by kernel_rfl) (by kernel_rfl) (by kernel_rfl) ?q68 (Or.inl ⟨?w68, ?y68⟩) (by assumption) ?r68
  case' i68 => simp only [List.getElem?_toArray, List.getElem?_cons_succ, List.getElem?_cons_zero]
  case i68 => rfl
  case q68 => exact fun _ _ _ h => h
  case w68 => rfl
  case y68 => (intro w hSw; go_simp) <;> with_reducible rfl
  try simp only [Act.put, List.setIfInBounds_toArray, List.set_cons_zero, List.set_cons_succ]
  refine wpAnyH_take (i := 11) (oi := ?o69) (v := ?v69) ?i69 (by kernel_rfl) (by kernel_rfl) (by kernel_rfl) ?q69 (Or.inl ⟨?w69, ?y69⟩) (by assumption) ?r69
  case' i69 => simp only [List.getElem?_toArray, List.getElem?_cons_succ, List.getElem?_cons_zero]
  case i69 => rfl
  case q69 => exact fun _ _ _ h => h
  case w69 => rfl
  case y69 => (intro w hSw; go_simp) <;> with_reducible rfl
  try simp only [Act.put, List.setIfInBounds_toArray, List.set_cons_zero, List.set_cons_succ]
  refine wpAnyH_take (i := 12) (oi := ?o70) (v := ?v70) ?i70 (by kernel_rfl) (by kernel_rfl) (by kernel_rfl) ?q70 (Or.inl ⟨?w70, ?y70⟩) (by assumption) ?r70
  case' i70 => simp only [List.getElem?_toArray, List.getElem?_cons_succ, List.getElem?_cons_zero]
  case i70 => rfl
  case q70 => exact fun _ _ _ h => h
  case w70 => rfl
  case y70 => (intro w hSw; go_simp) <;> with_reducible rfl
  try simp only [Act.put, List.setIfInBounds_toArray, List.set_cons_zero, List.set_cons_succ]
  refine wpAnyH_take (i := 13) (oi := ?o71) (v := ?v71) ?i71 (by kernel_rfl) (by kernel_rfl) (by kernel_rfl) ?q71 (Or.inl ⟨?w71, ?y71⟩) (by assumption) ?r71
  case' i71 => simp only [List.getElem?_toArray, List.getElem?_cons_succ, List.getElem?_cons_zero]
  case i71 => rfl
  case q71 => exact fun _ _ _ h => h
  case w71 => rfl
  case y71 => (intro w hSw; go_simp) <;> with_reducible rfl
  try simp only [Act.put, List.setIfInBounds_toArray, List.set_cons_zero, List.set_cons_succ]
  refine wpAnyH_take (i := 14) (oi := ?o72) (v := ?v72) ?i72 (by kernel_rfl) (by kernel_rfl) (by kernel_rfl) ?q72 (Or.inl ⟨?w72, ?y72⟩) (by assumption) ?r72
  case' i72 => simp only [List.getElem?_toArray, List.getElem?_cons_succ, List.getElem?_cons_zero]
  case i72 => rfl
  case q72 => exact fun _ _ _ h => h
  case w72 => rfl
  case y72 => (intro w hSw; go_simp) <;> with_reducible rfl
  try simp only [Act.put, List.setIfInBounds_toArray, List.set_cons_zero, List.set_cons_succ]
  refine wpAnyH_take (i := 15) (oi := ?o73) (v := ?v73) ?i73 (by kernel_rfl) (by kernel_rfl) (by kernel_rfl) ?q73 (Or.inl ⟨?w73, ?y73⟩) (by assumption) ?r73
  case' i73 => simp only [List.getElem?_toArray, List.getElem?_cons_succ, List.getElem?_cons_zero]
  case i73 => rfl
  case q73 => exact fun _ _ _ h => h
  case w73 => rfl
  case y73 => (intro w hSw; go_simp) <;> with_reducible rfl
  try simp only [Act.put, List.setIfInBounds_toArray, List.set_cons_zero, List.set_cons_succ]
  refine wpAnyH_done (by kernel_rfl) ?_ _
  have HB := Lib.hid hHeld
  have HR1 := Lib.hid (HR.out.below hHeld)
  clear hHeld
  obtain ⟨z0, z1, z2, z3, z4⟩ := HR1.out.cells
  go_wp2
  go_ret
  exact ⟨rfl, ((Chg.of_below HB.out).trans (Chg.setCell _ _ _ _)).trans (Chg.setCell _ _ _ _), row_set 1 (.int .i64 q) (row_set 2 (.int .i64 E) HR1.out)⟩
theorem roffer_c (s : ByteArray) (r p e : Nat) (w : World) (hs : s.size ≤ 1000000) (hr : RdAt w r s p e) (t : ByteArray) (p' e' : Nat) (h : rdO s p e = (t, p', e')) :
    Calls Try.prog 25 #[.pointer (some ⟨r, 0, none⟩)] w fun x w' => x = .returned (.string t) ∧ Chg (fun k => k = r) w w' ∧ RdAt w' r s p' e' := by
  by_cases he : e = 0
  · subst he; exact roffer_0 s r p w hs hr t p' e' (Lib.hid h)
  · rw [rdO, if_neg he] at h
    injection h with h1 h2; injection h2 with h2 h3
    subst h1 h2 h3
    exact (roffer_e s r p e w hr he).mono fun x w' ⟨h1, h2⟩ => by subst h2; exact ⟨h1, Chg.of_below (Below.refl _ _), hr⟩
end Go.Proofs.Ytifpahjlmnimnaa
