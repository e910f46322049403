/- What the calls upon messages answer, as functions; messages compared. -/
import Derived.Test.YtifpahjlmnimnaaMsgB
import Derived.Deep.AppendLies
import Derived.Laws.StructEq
namespace Go.Proofs.Ytifpahjlmnimnaa
open Go.RowKit
set_option linter.unusedVariables false
set_option linter.unusedSimpArgs false
set_option maxRecDepth 20000

def zeroM (k : Int) : Ms := ⟨fun j => if j = 0 then k else 0, ByteArray.empty⟩
def eqM (A B : Ms) : Bool := A.i 0 == B.i 0 && (A.i 1 == B.i 1 && (A.i 2 == B.i 2 && (A.s.toList == B.s.toList && (A.i 4 == B.i 4 && (A.i 5 == B.i 5 && (A.i 6 == B.i 6 && (A.i 7 == B.i 7 && (A.i 8 == B.i 8 && (A.i 9 == B.i 9 && (A.i 10 == B.i 10 && (A.i 11 == B.i 11 && (A.i 12 == B.i 12))))))))))))
theorem toList_iff {a b : ByteArray} : a.toList = b.toList ↔ a = b := by
  rw [ByteArray.toList_eq, ByteArray.toList_eq]
  constructor
  · intro h; apply ByteArray.ext; apply Array.ext'; exact h
  · rintro rfl; rfl
theorem eqM_iff (A B : Ms) : eqM A B = true ↔ A.cl = B.cl := by
  simp only [eqM, Bool.and_eq_true, beq_iff_eq, toList_iff]
  constructor
  · rintro ⟨h0, h1, h2, h3, h4, h5, h6, h7, h8, h9, h10, h11, h12⟩
    unfold Ms.cl
    rw [h0, h1, h2, h3, h4, h5, h6, h7, h8, h9, h10, h11, h12]
  · intro h
    unfold Ms.cl at h
    simp only [Array.mk.injEq, List.cons.injEq, Value.int.injEq, Value.string.injEq, true_and, and_true] at h
    obtain ⟨h0, h1, h2, h3, h4, h5, h6, h7, h8, h9, h10, h11, h12⟩ := h
    exact ⟨h0, h1, h2, h3, h4, h5, h6, h7, h8, h9, h10, h11, h12⟩
theorem eqM_self (A : Ms) : eqM A A = true := (eqM_iff A A).2 rfl

/-- Fields emptied one by one, as long as each is right. -/
def goR : List Fd → Ms → Option Ms
  | [], M => some M
  | f :: r, M => if f.ok M = true then goR r (f.emp M) else none
def rightM (M : Ms) : Bool := match fds (M.i 0) with
  | [] => false
  | f :: r => match goR (f :: r) M with
    | none => false
    | some M' => eqM M' (zeroM (M'.i 0))
def encL : List Fd → Ms → ByteArray → ByteArray
  | [], _, s => s
  | f :: r, M, s => encL r M (s ++ f.by M)
def encM (M : Ms) : ByteArray := if rightM M = true then encL (fds (M.i 0)) M (putS (u64 (M.i 0))) else ByteArray.empty
def rdL (s : ByteArray) : List Fd → Nat → Ms → Nat × Ms × Nat
  | [], p, M => (p, M, 0)
  | f :: r, p, M => if f.er s p = 0 then rdL s r (f.to s p) (f.put s p M) else (0, M, f.er s p)
def namL : List Fd → Ms → List Int
  | [], _ => []
  | .nam j :: r, M => M.i j :: namL r M
  | _ :: r, M => namL r M
def namesM (M : Ms) : List Int := namL (fds (M.i 0)) M
/-- Behind the Kind: what the fields are, whether bytes are left, whether it may be. -/
def decEnd (s : ByteArray) : Nat × Ms × Nat → Ms × Nat
  | (p, M, 0) => if (decide (p < s.size) || !rightM M) = true then (zeroM 0, 3) else (M, 0)
  | (_, _, e) => (zeroM 0, e)
def decM (s : ByteArray) : Ms × Nat := if 4096 < s.size then (zeroM 0, 4) else match getA s.data.toList 0 with
  | (n, p, 0) => decEnd s (rdL s (fds (IntKind.i64.wrap n)) p (zeroM (IntKind.i64.wrap n)))
  | (_, _, e) => (zeroM 0, e)

theorem fds_none {k : Int} (h1 : k ≠ 1) (h2 : k ≠ 2) (h3 : k ≠ 3) (h4 : k ≠ 4) : fds k = [] := by
  unfold fds; split <;> first | contradiction | rfl
theorem fds_cases (k : Int) : k = 1 ∨ k = 2 ∨ k = 3 ∨ k = 4 ∨ (k ≠ 1 ∧ k ≠ 2 ∧ k ≠ 3 ∧ k ≠ 4 ∧ fds k = []) := by
  by_cases h1 : k = 1
  · exact .inl h1
  by_cases h2 : k = 2
  · exact .inr (.inl h2)
  by_cases h3 : k = 3
  · exact .inr (.inr (.inl h3))
  by_cases h4 : k = 4
  · exact .inr (.inr (.inr (.inl h4)))
  exact .inr (.inr (.inr (.inr ⟨h1, h2, h3, h4, fds_none h1 h2 h3 h4⟩)))
theorem fds_len (k : Int) : (fds k).length ≤ 8 := by
  unfold fds; split <;> decide
theorem right_nofds {M : Ms} (h : fds (M.i 0) = []) : rightM M = false := by unfold rightM; rw [h]
theorem right_go {M : Ms} (h : fds (M.i 0) ≠ []) : rightM M = (match goR (fds (M.i 0)) M with | none => false | some M' => eqM M' (zeroM (M'.i 0))) := by
  unfold rightM
  cases e : fds (M.i 0) with
  | nil => exact absurd e h
  | cons f r => rfl
theorem emp_kind (f : Fd) (hf : f.Fit) (M : Ms) : (f.emp M).i 0 = M.i 0 := by
  cases f with
  | int j lo hi => obtain ⟨hj, _⟩ := hf; simp only [Fd.emp, Ms.set]; rw [if_neg (by omega)]
  | ses j lo hi => obtain ⟨hj, _⟩ := hf; simp only [Fd.emp, Ms.set]; rw [if_neg (by omega)]
  | nam j => obtain ⟨hj, _⟩ := hf; simp only [Fd.emp, Ms.set]; rw [if_neg (by omega)]
  | ver => rfl
theorem put_kind (f : Fd) (hf : f.Fit) (s : ByteArray) (p : Int) (M : Ms) : (f.put s p M).i 0 = M.i 0 := by
  cases f with
  | int j lo hi => obtain ⟨hj, _⟩ := hf; simp only [Fd.put, Ms.set]; rw [if_neg (by omega)]
  | ses j lo hi => obtain ⟨hj, _⟩ := hf; simp only [Fd.put, Ms.set]; rw [if_neg (by omega)]
  | nam j => obtain ⟨hj, _⟩ := hf; simp only [Fd.put, Ms.set]; rw [if_neg (by omega)]
  | ver => rfl
theorem numA_to (s : ByteArray) (a : Int) : (numA s.data.toList a).2.1 ≤ s.size := by
  obtain ⟨n, q, e, h0⟩ : ∃ n q e, getA s.data.toList a = (n, q, e) := ⟨_, _, _, rfl⟩
  have hb := getA_bounds s a h0
  by_cases he : e = 0
  · subst he
    by_cases hbig : 4294967296 < n
    · rw [numA_big h0 hbig]; exact Nat.zero_le _
    · rw [numA_ok h0 (by omega)]; exact hb.2
  · rw [numA_err h0 he]; exact Nat.zero_le _
theorem textA_to (s : ByteArray) (a m : Int) : (textA s.data.toList a m).2.1 ≤ s.size := by
  obtain ⟨N, P, E, h⟩ : ∃ N P E, getA s.data.toList a = (N, P, E) := ⟨_, _, _, rfl⟩
  have hb := getA_bounds s a h
  by_cases hE : E = 0
  · subst hE
    by_cases h1 : 0 < N ∧ m < (N : Int)
    · rw [textA_big h h1]; exact Nat.zero_le _
    · by_cases h2 : s.data.toList.length - P < N
      · rw [textA_short h h1 h2]; exact Nat.zero_le _
      · rw [textA_ok h h1 h2]
        have : s.data.toList.length = s.size := by simp
        dsimp only; omega
  · rw [textA_err h hE]; exact Nat.zero_le _
theorem Fd.to_le (f : Fd) (s : ByteArray) (p : Int) : f.to s p ≤ s.size := by
  cases f with
  | ver => exact textA_to s p 8
  | _ => exact numA_to s p
theorem Ms.set_cl {A B : Ms} (h : A.cl = B.cl) (j : Nat) (x : Int) : (A.set j x).cl = (B.set j x).cl := by
  rw [← eqM_iff] at h ⊢
  simp only [eqM, Bool.and_eq_true, beq_iff_eq, toList_iff, Ms.set] at h ⊢
  obtain ⟨h0, h1, h2, h3, h4, h5, h6, h7, h8, h9, h10, h11, h12⟩ := h
  refine ⟨?_, ?_, ?_, h3, ?_, ?_, ?_, ?_, ?_, ?_, ?_, ?_, ?_⟩ <;> split <;> first | rfl | assumption

theorem heldP : Try.prog.stoodInHeld 24 = false := by kernel_rfl
theorem guardP : Try.prog.eqGuardType Try.prog.depth 24 = false := by kernel_rfl
theorem fieldsP : Try.prog.underlying 24 = some (.struct (Try.prog.fieldsOf 24)) := by kernel_rfl
set_option maxHeartbeats 2000000 in
theorem eqInP (A B : Ms) (w : World) : (Op.equalIn 10000 24 A.v B.v).run Try.prog w = .ok (eqM A B) w := by
  unfold Ms.v Ms.cl
  rw [run_equalIn_agg _ _ _ _ _ fieldsP heldP]
  have hf : (Try.prog.fieldsOf 24).toList = (match Try.prog.underlying 24 with | some (.struct fs) => fs.toList | _ => []) := by kernel_rfl
  rw [hf, Try.underlying24]
  have i3 := fun (w : World) (a b : Int) => run_equalIn_int (P := Try.prog) w 9998 3 .i64 .i64 a b Try.underlying3
  have i30 := fun (w : World) (a b : Int) => run_equalIn_int (P := Try.prog) w 9998 22 .u64 .u64 a b Try.underlying22
  have i9 := fun (w : World) (a b : ByteArray) => run_equalIn_string (P := Try.prog) w 9998 9 a b Try.underlying9
  simp only [Op.eqFields, eqM]
  cases h0 : (A.i 0 == B.i 0)
  · go_simp
  cases h1 : (A.i 1 == B.i 1)
  · go_simp
  cases h2 : (A.i 2 == B.i 2)
  · go_simp
  cases h3 : (A.s.toList == B.s.toList)
  · go_simp
  cases h4 : (A.i 4 == B.i 4)
  · go_simp
  cases h5 : (A.i 5 == B.i 5)
  · go_simp
  cases h6 : (A.i 6 == B.i 6)
  · go_simp
  cases h7 : (A.i 7 == B.i 7)
  · go_simp
  cases h8 : (A.i 8 == B.i 8)
  · go_simp
  cases h9 : (A.i 9 == B.i 9)
  · go_simp
  cases h10 : (A.i 10 == B.i 10)
  · go_simp
  cases h11 : (A.i 11 == B.i 11)
  · go_simp
  cases h12 : (A.i 12 == B.i 12)
  · go_simp
  go_simp
theorem eqlP (A B : Ms) (w : World) : (binOp .eql 24 A.v B.v).run Try.prog w = .ok (.bool (eqM A B)) w := by
  have h := eqInP A B w
  unfold Ms.v at h ⊢
  rw [run_eql_struct, h]; rfl
theorem neqP (A B : Ms) (w : World) : (binOp .neq 24 A.v B.v).run Try.prog w = .ok (.bool (!eqM A B)) w := by
  have h := eqInP A B w
  unfold Ms.v at h ⊢
  rw [run_neq_struct, h]; rfl
theorem heldR : Try.prog.stoodInHeld 29 = false := by kernel_rfl
theorem guardR : Try.prog.eqGuardType Try.prog.depth 29 = false := by kernel_rfl
theorem fieldsR : Try.prog.underlying 29 = some (.struct (Try.prog.fieldsOf 29)) := by kernel_rfl
set_option maxHeartbeats 2000000 in
theorem eqInR (A B : Ms) (w : World) : (Op.equalIn 10000 29 A.v B.v).run Try.prog w = .ok (eqM A B) w := by
  unfold Ms.v Ms.cl
  rw [run_equalIn_agg _ _ _ _ _ fieldsR heldR]
  have hf : (Try.prog.fieldsOf 29).toList = (match Try.prog.underlying 29 with | some (.struct fs) => fs.toList | _ => []) := by kernel_rfl
  rw [hf, Try.underlying29]
  have i3 := fun (w : World) (a b : Int) => run_equalIn_int (P := Try.prog) w 9998 3 .i64 .i64 a b Try.underlying3
  have i30 := fun (w : World) (a b : Int) => run_equalIn_int (P := Try.prog) w 9998 22 .u64 .u64 a b Try.underlying22
  have i9 := fun (w : World) (a b : ByteArray) => run_equalIn_string (P := Try.prog) w 9998 9 a b Try.underlying9
  simp only [Op.eqFields, eqM]
  cases h0 : (A.i 0 == B.i 0)
  · go_simp
  cases h1 : (A.i 1 == B.i 1)
  · go_simp
  cases h2 : (A.i 2 == B.i 2)
  · go_simp
  cases h3 : (A.s.toList == B.s.toList)
  · go_simp
  cases h4 : (A.i 4 == B.i 4)
  · go_simp
  cases h5 : (A.i 5 == B.i 5)
  · go_simp
  cases h6 : (A.i 6 == B.i 6)
  · go_simp
  cases h7 : (A.i 7 == B.i 7)
  · go_simp
  cases h8 : (A.i 8 == B.i 8)
  · go_simp
  cases h9 : (A.i 9 == B.i 9)
  · go_simp
  cases h10 : (A.i 10 == B.i 10)
  · go_simp
  cases h11 : (A.i 11 == B.i 11)
  · go_simp
  cases h12 : (A.i 12 == B.i 12)
  · go_simp
  go_simp
theorem eqlR (A B : Ms) (w : World) : (binOp .eql 29 A.v B.v).run Try.prog w = .ok (.bool (eqM A B)) w := by
  have h := eqInR A B w
  unfold Ms.v at h ⊢
  rw [run_eql_struct, h]; rfl
theorem neqR (A B : Ms) (w : World) : (binOp .neq 29 A.v B.v).run Try.prog w = .ok (.bool (!eqM A B)) w := by
  have h := eqInR A B w
  unfold Ms.v at h ⊢
  rw [run_neq_struct, h]; rfl
end Go.Proofs.Ytifpahjlmnimnaa
