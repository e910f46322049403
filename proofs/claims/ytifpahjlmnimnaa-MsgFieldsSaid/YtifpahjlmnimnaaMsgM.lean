/- Messages: what a message is, the fields of each kind, what may stand in each. -/
import Derived.Test.YtifpahjlmnimnaaOffR
import Derived.Test.YtifpahjlmnimnaaVintD
namespace Go.Proofs.Ytifpahjlmnimnaa
open Go.RowKit
set_option linter.unusedVariables false
set_option linter.unusedSimpArgs false

/-- A message: its numbers by their cells, and its offer (cell 3). -/
structure Ms where
  i : Nat → Int
  s : ByteArray
/-- The message's cells. -/
def Ms.cl (M : Ms) : Array Value := #[.int .i64 (M.i 0), .int .u64 (M.i 1), .int .u64 (M.i 2), .string M.s, .int .i64 (M.i 4), .int .i64 (M.i 5), .int .i64 (M.i 6), .int .i64 (M.i 7), .int .i64 (M.i 8), .int .i64 (M.i 9), .int .i64 (M.i 10), .int .u64 (M.i 11), .int .u64 (M.i 12)]
def Ms.v (M : Ms) : Value := .agg M.cl
def Ms.set (M : Ms) (j : Nat) (x : Int) : Ms := { M with i := fun k => if k = j then x else M.i k }
def Ms.setS (M : Ms) (t : ByteArray) : Ms := { M with s := t }
/-- Is it a cell of 64 bits without a sign? -/
def uCell (j : Nat) : Bool := j == 1 || j == 2 || j == 11 || j == 12
/-- Is it a cell of a number? -/
def nCell (j : Nat) : Bool := decide (j < 13) && !(j == 3)
def kCell (j : Nat) : IntKind := if uCell j then .u64 else .i64
structure Ms.Wf (M : Ms) : Prop where
  n : ∀ j, nCell j = true → (Lit.int (kCell j) (M.i j)).wf = true
  s : M.s.size ≤ maxLen

/-- A field: an int with its bounds, a number of 64 bits with its bounds, a term's name, the offer. -/
inductive Fd where
  | int (j : Nat) (lo hi : Int)
  | ses (j : Nat) (lo hi : Int)
  | nam (j : Nat)
  | ver
/-- The fields of each kind. -/
def fds : Int → List Fd
  | 1 => [.ses 1 1 4294967296, .ver, .int 4 0 1, .nam 6, .nam 7, .nam 8, .nam 9, .nam 10]
  | 2 => [.ses 1 1 4294967296, .ses 2 1 4294967296, .nam 6, .nam 8, .nam 9]
  | 3 => [.ses 2 1 4294967296, .int 5 1 15]
  | 4 => [.ses 2 1 4294967296, .ses 11 0 1000, .ses 12 0 255, .nam 9]
  | _ => []
/-- It is one of these. -/
def Fd.Fit : Fd → Prop
  | .int j lo hi => (j = 4 ∨ j = 5) ∧ 0 ≤ lo ∧ lo ≤ 1 ∧ 1 ≤ hi ∧ hi ≤ 15
  | .ses j lo hi => (j = 1 ∨ j = 2 ∨ j = 11 ∨ j = 12) ∧ 0 ≤ lo ∧ lo ≤ 1 ∧ 1 ≤ hi ∧ hi ≤ 4294967296
  | .nam j => 6 ≤ j ∧ j ≤ 10
  | .ver => True
def inIv (lo hi x : Int) : Bool := decide (lo ≤ x) && decide (x ≤ hi)
def Fd.ok (M : Ms) : Fd → Bool
  | .int j lo hi => inIv lo hi (M.i j)
  | .ses j lo hi => inIv lo hi (M.i j)
  | .nam j => inIv 1 1048576 (M.i j)
  | .ver => rightB M.s.data.toList
def Fd.emp (M : Ms) : Fd → Ms
  | .int j _ _ => M.set j 0
  | .ses j _ _ => M.set j 0
  | .nam j => M.set j 0
  | .ver => M.setS ByteArray.empty
/-- A number as 64 bits without a sign. -/
def u64 (x : Int) : Nat := (IntKind.u64.wrap x).toNat
def Fd.by (M : Ms) : Fd → ByteArray
  | .int j _ _ => putS (u64 (M.i j))
  | .ses j _ _ => putS (u64 (M.i j))
  | .nam j => putS (u64 (M.i j))
  | .ver => ptS M.s
/-- What stands there once it is read, and the place behind it, or what is wrong. -/
def numA (l : List UInt8) (p : Int) : Nat × Nat × Nat := match getA l p with
  | (n, to, 0) => if 4294967296 < n then (0, 0, 3) else (n, to, 0)
  | (_, _, e) => (0, 0, e)
def Fd.put (s : ByteArray) (p : Int) (M : Ms) : Fd → Ms
  | .int j _ _ => M.set j (numA s.data.toList p).1
  | .ses j _ _ => M.set j (numA s.data.toList p).1
  | .nam j => M.set j (numA s.data.toList p).1
  | .ver => M.setS (tS s p 8)
def Fd.to (s : ByteArray) (p : Int) : Fd → Nat
  | .ver => (textA s.data.toList p 8).2.1
  | _ => (numA s.data.toList p).2.1
def Fd.er (s : ByteArray) (p : Int) : Fd → Nat
  | .ver => (textA s.data.toList p 8).2.2
  | _ => (numA s.data.toList p).2.2

/-! As values. -/
def ptr (q j : Nat) : Value := .pointer (some ⟨q, j, none⟩)
def Fd.ty : Fd → TypeId
  | .int .. => 75
  | .ses .. => 81
  | .nam _ => 77
  | .ver => 86
def Fd.rcv (q : Nat) : Fd → Value
  | .int j lo hi => .agg #[ptr q j, .int .u64 lo, .int .u64 hi]
  | .ses j lo hi => .agg #[ptr q j, .int .u64 lo, .int .u64 hi]
  | .nam j => .agg #[ptr q j, .int .u64 1, .int .u64 1048576]
  | .ver => .agg #[ptr q 3]
def Fd.v (q : Nat) (f : Fd) : Value := .iface f.ty (f.rcv q)
def fdsV (q : Nat) (k : Int) : Array Value := ((fds k).map (Fd.v q)).toArray
/-- The message at a block. -/
def MsgAt (w : World) (q : Nat) (M : Ms) : Prop := w.heap[q]? = some (.cells M.cl 24 (0, 0))

theorem frz_of_row {w : World} {g : Nat} (j : Nat) {cs : Array Value} {t : TypeId} (h : w.heap[g]? = some (.cells cs t (0, 0))) : w.frozen? ⟨g, j, none⟩ = false := by simp [World.frozen?, h]
theorem cell_at {w : World} {g : Nat} (j : Nat) {cs : Array Value} {t : TypeId} {p : Nat × Nat} (h : w.heap[g]? = some (.cells cs t p)) : w.cell? ⟨g, j, none⟩ = cs[j]? := by simp [World.cell?, h]
theorem row_set {w : World} {b : Nat} {cs : Array Value} {t : TypeId} (i : Nat) (v : Value) (h : w.heap[b]? = some (.cells cs t (0, 0))) : (w.setCell ⟨b, i, none⟩ v).heap[b]? = some (.cells (cs.setIfInBounds i v) t (0, 0)) := by
  have hlt := blk_lt h
  have h' : w.heap[b] = .cells cs t (0, 0) := by simpa [Array.getElem?_eq_getElem hlt] using h
  show (w.heap.modify b _)[b]? = _
  rw [Array.getElem?_eq_getElem (by simpa using hlt), Array.getElem_modify_self, h']
  rfl
theorem Chg.setCell (w : World) (b i : Nat) (v : Value) : Chg (fun k => k = b) w (w.setCell ⟨b, i, none⟩ v) :=
  ⟨rfl, rfl, rfl, by simp, fun k hk hs => heap_setCell_other _ _ _ _ (by exact hs)⟩
theorem MsgAt.lt {w : World} {q : Nat} {M : Ms} (h : MsgAt w q M) : q < w.heap.size := blk_lt h
theorem MsgAt.below {w w' : World} {q : Nat} {M : Ms} (h : MsgAt w q M) (hb : Below w.heap.size w w') : MsgAt w' q M := (hb.block q h.lt).trans h
/-- A cell of a number. -/
theorem Ms.cl_at (M : Ms) {j : Nat} (h : nCell j = true) : M.cl[j]? = some (.int (kCell j) (M.i j)) := by
  simp only [nCell, Bool.and_eq_true, decide_eq_true_eq, Bool.not_eq_true', beq_eq_false_iff_ne, ne_eq] at h
  match j, h with
  | 0, _ => rfl
  | 1, _ => rfl
  | 2, _ => rfl
  | 3, h => exact absurd rfl h.2
  | 4, _ => rfl
  | 5, _ => rfl
  | 6, _ => rfl
  | 7, _ => rfl
  | 8, _ => rfl
  | 9, _ => rfl
  | 10, _ => rfl
  | 11, _ => rfl
  | 12, _ => rfl
  | n + 13, h => omega
theorem Ms.cl_s (M : Ms) : M.cl[3]? = some (.string M.s) := rfl
theorem Ms.cl_set (M : Ms) {j : Nat} (x : Int) (h : nCell j = true) : M.cl.setIfInBounds j (.int (kCell j) x) = (M.set j x).cl := by
  simp only [nCell, Bool.and_eq_true, decide_eq_true_eq, Bool.not_eq_true', beq_eq_false_iff_ne, ne_eq] at h
  match j, h with
  | 0, _ => rfl
  | 1, _ => rfl
  | 2, _ => rfl
  | 3, h => exact absurd rfl h.2
  | 4, _ => rfl
  | 5, _ => rfl
  | 6, _ => rfl
  | 7, _ => rfl
  | 8, _ => rfl
  | 9, _ => rfl
  | 10, _ => rfl
  | 11, _ => rfl
  | 12, _ => rfl
  | n + 13, h => omega
theorem Ms.cl_setS (M : Ms) (t : ByteArray) : M.cl.setIfInBounds 3 (.string t) = (M.setS t).cl := rfl
theorem MsgAt.set {w : World} {q j : Nat} {M : Ms} {k : IntKind} (h : MsgAt w q M) (hj : nCell j = true) (hk : k = kCell j) (x : Int) : MsgAt (w.setCell ⟨q, j, none⟩ (.int k x)) q (M.set j x) := by
  have := row_set j (.int k x) h
  subst hk
  rw [M.cl_set x hj] at this
  exact this
theorem MsgAt.setS {w : World} {q : Nat} {M : Ms} (h : MsgAt w q M) (t : ByteArray) : MsgAt (w.setCell ⟨q, 3, none⟩ (.string t)) q (M.setS t) := row_set 3 (.string t) h
theorem MsgAt.cell {w : World} {q j : Nat} {M : Ms} (h : MsgAt w q M) (hj : nCell j = true) : w.cell? ⟨q, j, none⟩ = some (.int (kCell j) (M.i j)) := by rw [cell_at j h, M.cl_at hj]
theorem MsgAt.cellS {w : World} {q : Nat} {M : Ms} (h : MsgAt w q M) : w.cell? ⟨q, 3, none⟩ = some (.string M.s) := by rw [cell_at 3 h, M.cl_s]
end Go.Proofs.Ytifpahjlmnimnaa
