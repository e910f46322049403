/- Fields: what each of them tells, called through what it is handed out as. -/
import Derived.Test.YtifpahjlmnimnaaMsgA
namespace Go.Proofs.Ytifpahjlmnimnaa
open Go.RowKit
set_option linter.unusedVariables false
set_option linter.unusedSimpArgs false
set_option maxRecDepth 20000

/-- Which functions a field's methods are. -/
def Fd.fRight : Fd → FuncId
  | .int .. => 59
  | .ses .. => 63
  | .nam _ => 59
  | .ver => 67
def Fd.fBytes : Fd → FuncId
  | .int .. => 56
  | .ses .. => 60
  | .nam _ => 56
  | .ver => 64
def Fd.fEmpty : Fd → FuncId
  | .int .. => 57
  | .ses .. => 61
  | .nam _ => 57
  | .ver => 65
def Fd.fRead : Fd → FuncId
  | .int .. => 58
  | .ses .. => 62
  | .nam _ => 58
  | .ver => 66
theorem inv_right (f : Fd) (q : Nat) (w : World) : (callMethod (f.v q) "sough/msg.right" #[]).run Try.prog w = .ok (.enter f.fRight #[f.rcv q]) w := by
  cases f <;> kernel_rfl
theorem inv_bytes (f : Fd) (q : Nat) (w : World) : (callMethod (f.v q) "sough/msg.bytes" #[]).run Try.prog w = .ok (.enter f.fBytes #[f.rcv q]) w := by
  cases f <;> kernel_rfl
theorem inv_empty (f : Fd) (q : Nat) (w : World) : (callMethod (f.v q) "sough/msg.empty" #[]).run Try.prog w = .ok (.enter f.fEmpty #[f.rcv q]) w := by
  cases f <;> kernel_rfl
theorem inv_read (f : Fd) (q : Nat) (s : ByteArray) (a : Int) (w : World) : (callMethod (f.v q) "sough/msg.read" #[.string s, .int .i64 a]).run Try.prog w = .ok (.enter f.fRead #[f.rcv q, .string s, .int .i64 a]) w := by
  cases f <;> kernel_rfl

theorem meth_right (f : Fd) (q : Nat) (w : World) : (method 212 f.ty (f.rcv q) "sough/msg.right").run Try.prog w = .ok (f.fRight, f.rcv q) w := by cases f <;> kernel_rfl
theorem call_right (f : Fd) (q : Nat) (w : World) : (callFunc f.fRight #[f.rcv q]).run Try.prog w = .ok (.enter f.fRight #[f.rcv q]) w := by cases f <;> kernel_rfl
theorem meth_bytes (f : Fd) (q : Nat) (w : World) : (method 212 f.ty (f.rcv q) "sough/msg.bytes").run Try.prog w = .ok (f.fBytes, f.rcv q) w := by cases f <;> kernel_rfl
theorem call_bytes (f : Fd) (q : Nat) (w : World) : (callFunc f.fBytes #[f.rcv q]).run Try.prog w = .ok (.enter f.fBytes #[f.rcv q]) w := by cases f <;> kernel_rfl
theorem meth_empty (f : Fd) (q : Nat) (w : World) : (method 212 f.ty (f.rcv q) "sough/msg.empty").run Try.prog w = .ok (f.fEmpty, f.rcv q) w := by cases f <;> kernel_rfl
theorem call_empty (f : Fd) (q : Nat) (w : World) : (callFunc f.fEmpty #[f.rcv q]).run Try.prog w = .ok (.enter f.fEmpty #[f.rcv q]) w := by cases f <;> kernel_rfl
theorem meth_read (f : Fd) (q : Nat) (w : World) : (method 212 f.ty (f.rcv q) "sough/msg.read").run Try.prog w = .ok (f.fRead, f.rcv q) w := by cases f <;> kernel_rfl
theorem call_read (f : Fd) (q : Nat) (s : ByteArray) (a : Int) (w : World) : (callFunc f.fRead #[f.rcv q, .string s, .int .i64 a]).run Try.prog w = .ok (.enter f.fRead #[f.rcv q, .string s, .int .i64 a]) w := by cases f <;> kernel_rfl
theorem wf_i64 {x : Int} : (Lit.int .i64 x).wf = true ↔ -9223372036854775808 ≤ x ∧ x ≤ 9223372036854775807 := by
  simp [Lit.wf, IntKind.bits, IntKind.signed, IntKind.min, IntKind.max]
theorem wf_u64 {x : Int} : (Lit.int .u64 x).wf = true ↔ 0 ≤ x ∧ x ≤ 18446744073709551615 := by
  simp [Lit.wf, IntKind.bits, IntKind.signed, IntKind.min, IntKind.max]
theorem wrap_def (x : Int) : IntKind.u64.wrap x = x % 18446744073709551616 := by
  simp [IntKind.wrap, IntKind.bits, IntKind.signed]
theorem wrap_u (x : Int) : IntKind.u64.wrap x = ((u64 x : Nat) : Int) ∧ ((u64 x : Nat) : Int) ≤ 18446744073709551615 := by
  unfold u64; rw [wrap_def]; omega
theorem u64_pos {x : Int} (h0 : 0 ≤ x) (h1 : x ≤ 18446744073709551615) : ((u64 x : Nat) : Int) = x := by
  unfold u64; rw [wrap_def]; omega
theorem inIv_wrap {lo hi x : Int} (h : (Lit.int .i64 x).wf = true) (h0 : 0 ≤ lo) (h1 : hi ≤ 9223372036854775807) : inIv lo hi (IntKind.u64.wrap x) = inIv lo hi x := by
  rw [wf_i64] at h
  rw [wrap_def]
  by_cases hx : 0 ≤ x
  · rw [show x % 18446744073709551616 = x by omega]
  · have e1 : inIv lo hi x = false := by simp [inIv]; omega
    have e2 : inIv lo hi (x % 18446744073709551616) = false := by simp [inIv]; omega
    rw [e1, e2]
/-- The cell of a field that is a number. -/
def Fd.cellOf : Fd → Nat
  | .int j _ _ => j
  | .ses j _ _ => j
  | .nam j => j
  | .ver => 3
theorem nCell_i {j : Nat} (h : j = 4 ∨ j = 5) : nCell j = true ∧ kCell j = .i64 := by rcases h with rfl | rfl <;> decide
theorem nCell_u {j : Nat} (h : j = 1 ∨ j = 2 ∨ j = 11 ∨ j = 12) : nCell j = true ∧ kCell j = .u64 := by rcases h with rfl | rfl | rfl | rfl <;> decide
theorem nCell_n {j : Nat} (h : 6 ≤ j ∧ j ≤ 10) : nCell j = true ∧ kCell j = .i64 := by
  obtain rfl | rfl | rfl | rfl | rfl : j = 6 ∨ j = 7 ∨ j = 8 ∨ j = 9 ∨ j = 10 := by omega
  all_goals decide
section
variable {w : World} {q : Nat} {M : Ms}
theorem MsgAt.of (h : MsgAt w q M) {j : Nat} {k : IntKind} (hj : nCell j = true ∧ kCell j = k) : w.cell? ⟨q, j, none⟩ = some (.int k (M.i j)) := by
  rw [← hj.2]; exact h.cell hj.1
theorem Ms.Wf.at (h : M.Wf) {j : Nat} {k : IntKind} (hj : nCell j = true ∧ kCell j = k) : (Lit.int k (M.i j)).wf = true := by
  rw [← hj.2]; exact h.n j hj.1
theorem Ms.Wf.set (h : M.Wf) {j : Nat} {x : Int} (hx : (Lit.int (kCell j) x).wf = true) : (M.set j x).Wf :=
  ⟨fun i hi => by
    by_cases e : i = j
    · subst e; simp only [Ms.set, if_true]; exact hx
    · simp only [Ms.set, if_neg e]; exact h.n i hi, h.s⟩
theorem Ms.Wf.setS (h : M.Wf) {t : ByteArray} (ht : t.size ≤ maxLen) : (M.setS t).Wf := ⟨h.n, ht⟩
theorem wf_zero (k : IntKind) : (Lit.int k 0).wf = true := by cases k <;> decide
theorem Fd.emp_wf (f : Fd) (h : M.Wf) : (f.emp M).Wf := by
  cases f with
  | int j lo hi => exact h.set (wf_zero _)
  | ses j lo hi => exact h.set (wf_zero _)
  | nam j => exact h.set (wf_zero _)
  | ver => exact h.setS (Nat.zero_le _)

theorem Fd.right_c (f : Fd) (hf : f.Fit) (h : MsgAt w q M) (hM : M.Wf) (b : Bool) (hb : Hid (f.ok M = b)) :
    Calls Try.prog f.fRight #[f.rcv q] w fun e w' => e = .returned (.bool b) ∧ Below w.heap.size w w' := by
  cases f with
  | int j lo hi =>
    obtain ⟨hj, h0, h1, h2, h3⟩ := hf
    exact rightI_any _ lo hi _ w (h.of (nCell_i hj)) _ rfl b (Lib.hid (by rw [inIv_wrap (hM.at (nCell_i hj)) h0 (by omega)]; exact hb.out))
  | ses j lo hi => exact rightU_any _ lo hi _ w (h.of (nCell_u hf.1)) b hb
  | nam j => exact rightI_any _ 1 1048576 _ w (h.of (nCell_n hf)) _ rfl b (Lib.hid (by rw [inIv_wrap (hM.at (nCell_n hf)) (by omega) (by omega)]; exact hb.out))
  | ver => exact rightV_any _ M.s w hM.s h.cellS b hb
theorem Fd.bytes_c (f : Fd) (hf : f.Fit) (h : MsgAt w q M) (hM : M.Wf) (hs : M.s.size ≤ 1000000) :
    Calls Try.prog f.fBytes #[f.rcv q] w fun e w' => e = .returned (.string (f.by M)) ∧ Below w.heap.size w w' := by
  cases f with
  | int j lo hi => exact bytesI_any _ lo hi _ w (h.of (nCell_i hf.1)) _ (wrap_u _).1 (wrap_u _).2
  | ses j lo hi =>
    have := wf_u64.1 (hM.at (nCell_u hf.1))
    exact bytesU_any _ lo hi _ w (h.of (nCell_u hf.1)) _ (u64_pos this.1 this.2).symm (wrap_u _).2
  | nam j => exact bytesI_any _ 1 1048576 _ w (h.of (nCell_n hf)) _ (wrap_u _).1 (wrap_u _).2
  | ver => exact bytesV_any _ M.s w hs h.cellS
/-- The message turned at its block alone. -/
theorem MsgAt.turn {w w1 : World} {q j : Nat} {M : Ms} {k : IntKind} (h : MsgAt w q M) (hb : Below w.heap.size w w1) (hj : nCell j = true ∧ kCell j = k) (x : Int) :
    Chg (fun k => k = q) w (w1.setCell ⟨q, j, none⟩ (.int k x)) ∧ MsgAt (w1.setCell ⟨q, j, none⟩ (.int k x)) q (M.set j x) :=
  ⟨(Chg.of_below hb).trans (Chg.setCell _ _ _ _), (h.below hb).set hj.1 hj.2.symm x⟩
theorem MsgAt.turnS {w w1 : World} {q : Nat} {M : Ms} (h : MsgAt w q M) (hb : Below w.heap.size w w1) (t : ByteArray) :
    Chg (fun k => k = q) w (w1.setCell ⟨q, 3, none⟩ (.string t)) ∧ MsgAt (w1.setCell ⟨q, 3, none⟩ (.string t)) q (M.setS t) :=
  ⟨(Chg.of_below hb).trans (Chg.setCell _ _ _ _), (h.below hb).setS t⟩
theorem Fd.empty_c (f : Fd) (hf : f.Fit) (h : MsgAt w q M) :
    Calls Try.prog f.fEmpty #[f.rcv q] w fun e w' => e = .returned (.tuple #[]) ∧ Chg (fun k => k = q) w w' ∧ MsgAt w' q (f.emp M) := by
  cases f with
  | int j lo hi => exact (emptyI_any _ lo hi _ w (h.of (nCell_i hf.1)) (frz_of_row j h)).mono fun e w' ⟨he, w1, hb, hw⟩ => ⟨he, by subst hw; exact h.turn hb (nCell_i hf.1) 0⟩
  | ses j lo hi => exact (emptyU_any _ lo hi _ w (h.of (nCell_u hf.1)) (frz_of_row j h)).mono fun e w' ⟨he, w1, hb, hw⟩ => ⟨he, by subst hw; exact h.turn hb (nCell_u hf.1) 0⟩
  | nam j => exact (emptyI_any _ 1 1048576 _ w (h.of (nCell_n hf)) (frz_of_row j h)).mono fun e w' ⟨he, w1, hb, hw⟩ => ⟨he, by subst hw; exact h.turn hb (nCell_n hf) 0⟩
  | ver => exact (emptyV_any _ M.s w h.cellS (frz_of_row 3 h)).mono fun e w' ⟨he, w1, hb, hw⟩ => ⟨he, by subst hw; exact h.turnS hb _⟩
theorem numA_zero (l : List UInt8) (a : Int) (h : (numA l a).2.2 ≠ 0) : numA l a = (0, 0, (numA l a).2.2) := by
  obtain ⟨n, q, e, h0⟩ : ∃ n q e, getA l a = (n, q, e) := ⟨_, _, _, rfl⟩
  by_cases he : e = 0
  · subst he
    by_cases hb : 4294967296 < n
    · rw [numA_big h0 hb]
    · rw [numA_ok h0 (by omega)] at h; exact absurd rfl h
  · rw [numA_err h0 he]
theorem numA_le (l : List UInt8) (a : Int) : (numA l a).1 ≤ 4294967296 := by
  obtain ⟨n, q, e, h0⟩ : ∃ n q e, getA l a = (n, q, e) := ⟨_, _, _, rfl⟩
  by_cases he : e = 0
  · subst he
    by_cases hb : 4294967296 < n
    · rw [numA_big h0 hb]; omega
    · rw [numA_ok h0 (by omega)]; dsimp only; omega
  · rw [numA_err h0 he]; omega
theorem Fd.read_err (f : Fd) (hf : f.Fit) (s : ByteArray) (a : Int) (hs : s.size ≤ 1000000) (E : Nat) (hE : Hid (f.er s a = E)) (h0 : Hid (E ≠ 0)) :
    Calls Try.prog f.fRead #[f.rcv q, .string s, .int .i64 a] w fun e w' => e = .returned (.tuple #[.int .i64 0, .int .i64 E]) ∧ Below w.heap.size w w' := by
  have hm : s.size ≤ maxLen := by unfold maxLen; omega
  cases f with
  | int j lo hi => exact readI_err _ lo hi s a w hm E (Lib.hid (by have h1 : (numA s.data.toList a).2.2 = E := hE.out; rw [numA_zero _ _ (by rw [h1]; exact h0.out), h1])) h0
  | ses j lo hi => exact readU_err _ lo hi s a w hm E (Lib.hid (by have h1 : (numA s.data.toList a).2.2 = E := hE.out; rw [numA_zero _ _ (by rw [h1]; exact h0.out), h1])) h0
  | nam j => exact readI_err _ 1 1048576 s a w hm E (Lib.hid (by have h1 : (numA s.data.toList a).2.2 = E := hE.out; rw [numA_zero _ _ (by rw [h1]; exact h0.out), h1])) h0
  | ver => exact readV_err _ s a w hs E hE h0
theorem Fd.read_ok (f : Fd) (hf : f.Fit) (h : MsgAt w q M) (s : ByteArray) (a : Int) (hs : s.size ≤ 1000000) (hE : Hid (f.er s a = 0)) (p : Nat) (hp : Hid (f.to s a = p)) :
    Calls Try.prog f.fRead #[f.rcv q, .string s, .int .i64 a] w fun e w' => e = .returned (.tuple #[.int .i64 p, .int .i64 0]) ∧ Chg (fun k => k = q) w w' ∧ MsgAt w' q (f.put s a M) := by
  have hm : s.size ≤ maxLen := by unfold maxLen; omega
  have hn : ∀ (e1 : (numA s.data.toList a).2.2 = 0) (e2 : (numA s.data.toList a).2.1 = p), Hid (numA s.data.toList a = ((numA s.data.toList a).1, p, 0)) := fun e1 e2 => Lib.hid (by
    rw [← e1, ← e2])
  cases f with
  | int j lo hi => exact (readI_ok _ lo hi _ s a w hm (h.of (nCell_i hf.1)) (frz_of_row j h) _ p (hn hE.out hp.out)).mono fun e w' ⟨he, w1, hb, hw⟩ => ⟨he, by subst hw; exact h.turn hb (nCell_i hf.1) _⟩
  | ses j lo hi => exact (readU_ok _ lo hi _ s a w hm (h.of (nCell_u hf.1)) (frz_of_row j h) _ p (hn hE.out hp.out)).mono fun e w' ⟨he, w1, hb, hw⟩ => ⟨he, by subst hw; exact h.turn hb (nCell_u hf.1) _⟩
  | nam j => exact (readI_ok _ 1 1048576 _ s a w hm (h.of (nCell_n hf)) (frz_of_row j h) _ p (hn hE.out hp.out)).mono fun e w' ⟨he, w1, hb, hw⟩ => ⟨he, by subst hw; exact h.turn hb (nCell_n hf) _⟩
  | ver => exact (readV_ok _ M.s s a w hs h.cellS (frz_of_row 3 h) _ p hE (Lib.hid rfl) hp).mono fun e w' ⟨he, w1, hb, hw⟩ => ⟨he, by subst hw; exact h.turnS hb _⟩
theorem textA_len (l : List UInt8) (a m : Int) : (textA l a m).1.length ≤ l.length := by
  obtain ⟨N, P, E, h⟩ : ∃ N P E, getA l a = (N, P, E) := ⟨_, _, _, rfl⟩
  by_cases hE : E = 0
  · subst hE
    by_cases h1 : 0 < N ∧ m < (N : Int)
    · rw [textA_big h h1]; simp
    · by_cases h2 : l.length - P < N
      · rw [textA_short h h1 h2]; simp
      · rw [textA_ok h h1 h2]; simp; omega
  · rw [textA_err h hE]; simp
theorem tS_size (s : ByteArray) (a m : Int) : (tS s a m).size ≤ s.size := by
  have := textA_len s.data.toList a m
  have e : (tS s a m).size = (textA s.data.toList a m).1.length := by simp [tS, ByteArray.size]
  rw [e]; simpa using this
theorem Fd.put_wf (f : Fd) (hf : f.Fit) (h : M.Wf) (s : ByteArray) (hs : s.size ≤ 1000000) (a : Int) : (f.put s a M).Wf := by
  have hle := numA_le s.data.toList a
  cases f with
  | int j lo hi => exact h.set (by rw [(nCell_i hf.1).2, wf_i64]; omega)
  | ses j lo hi => exact h.set (by rw [(nCell_u hf.1).2, wf_u64]; omega)
  | nam j => exact h.set (by rw [(nCell_n hf).2, wf_i64]; omega)
  | ver =>
    refine h.setS ?_
    have : (tS s a 8).size ≤ s.size := tS_size s a 8
    unfold maxLen; omega
end
theorem fds_fit {k : Int} {f : Fd} (h : f ∈ fds k) : f.Fit := by
  unfold fds at h
  split at h <;> simp only [List.mem_cons, List.not_mem_nil, or_false, false_or] at h
  · rcases h with rfl | rfl | rfl | rfl | rfl | rfl | rfl | rfl <;> simp [Fd.Fit]
  · rcases h with rfl | rfl | rfl | rfl | rfl <;> simp [Fd.Fit]
  · rcases h with rfl | rfl <;> simp [Fd.Fit]
  · rcases h with rfl | rfl | rfl | rfl <;> simp [Fd.Fit]
end Go.Proofs.Ytifpahjlmnimnaa
