/- Rows of parts: the document's Same and Join, the law's Refs. -/
import Derived.Test.YtjimkkakcgdgfaaRowF
namespace Go.Proofs.Ytjimkkakcgdgfaa
open Go.RowKit
set_option linter.unusedVariables false
set_option linter.unusedSimpArgs false
set_option maxRecDepth 20000

theorem drewN_below3 {B : Nat} {w : World} (h : B ≤ w.heap.size) (n : Nat) : Below B w (w.drewN n) := ⟨rfl, rfl, rfl, Nat.le_refl _, fun _ _ => rfl⟩
theorem RowF.len {w : World} {a : Option Addr} {cap : Nat} {fs : List Fr} (h : RowF w a cap fs) : fs.length ≤ 9223372036854775807 := by
  have := h.1
  have := h.2.1
  unfold maxLen at this
  omega
theorem frow_cell {w : World} {a : Option Addr} {cap : Nat} {fs : List Fr} (h : RowF w a cap fs) {j : Nat} (hj : j < fs.length) : ∃ b off, a = some ⟨b, off, none⟩ ∧ w.cell? ⟨b, off + j * 4, none⟩ = some (.int .u64 (fs.getD j zeroF).id) ∧ w.cell? ⟨b, off + j * 4 + 1, none⟩ = some (.int .i64 (fs.getD j zeroF).ix) ∧ w.cell? ⟨b, off + j * 4 + 2, none⟩ = some (.int .i64 (fs.getD j zeroF).ct) ∧ w.cell? ⟨b, off + j * 4 + 3, none⟩ = some (.string (fs.getD j zeroF).s) := by
  obtain ⟨_, _, b, off, h3⟩ := h
  obtain ⟨e, c⟩ := h3 j hj
  exact ⟨b, off, e, c⟩
set_option maxHeartbeats 4000000 in
set_option maxRecDepth 100000 in
theorem rsame_true (a1 a2 : Option Addr) (n c1 c2 : Nat) (fs : List Fr) (w : World) (hn : n = fs.length) (h1 : RowF w a1 c1 fs) (h2 : RowF w a2 c2 fs) :
    Calls Try.prog 15 #[.slice a1 n c1, .slice a2 n c2] w fun e w' => e = .returned (.bool true) ∧ Below w.heap.size w w' := by
  have hlen := h1.len
  rw [← hn] at hlen
  have HR1 := Lib.hid h1
  have HR2 := Lib.hid h2
  have HN := Lib.hid hn
  clear h1 h2 hn
  go_enter Try.func15, Try.ntmps15
  go_wp2_with fail
  go_loopw [5] (fun i wr => ∃ (k : Nat), k ≤ n ∧ i = .int .i64 k ∧ Hid (Below w.heap.size w wr)) (fun i _ => n - (intOf i).toNat)
  case atStart => exact ⟨0, Nat.zero_le _, rfl, Lib.hid (Below.refl _ _)⟩
  case round =>
    obtain ⟨k, hk, rfl, HB⟩ := hrel
    by_cases hlt : k < n
    · have hlt' : (k : Int) < (n : Int) := by omega
      obtain ⟨b1, f1, rfl, c0, c1, c2, c3⟩ := frow_cell HR1.out (j := k) (by rw [← HN.out]; exact hlt)
      replace c0 := (HB.out.cell (block_lt_of_cell c0)).trans c0
      replace c1 := (HB.out.cell (block_lt_of_cell c1)).trans c1
      replace c2 := (HB.out.cell (block_lt_of_cell c2)).trans c2
      replace c3 := (HB.out.cell (block_lt_of_cell c3)).trans c3
      obtain ⟨b2, f2, rfl, d0, d1, d2, d3⟩ := frow_cell HR2.out (j := k) (by rw [← HN.out]; exact hlt)
      replace d0 := (HB.out.cell (block_lt_of_cell d0)).trans d0
      replace d1 := (HB.out.cell (block_lt_of_cell d1)).trans d1
      replace d2 := (HB.out.cell (block_lt_of_cell d2)).trans d2
      replace d3 := (HB.out.cell (block_lt_of_cell d3)).trans d3
      generalize fs.getD k zeroF = z at c0 c1 c2 c3 d0 d1 d2 d3
      obtain ⟨id, ix, ct, s⟩ := z
      dsimp only at c0 c1 c2 c3 d0 d1 d2 d3
      have hq := fun u => (show (binOp .neq 43 (.agg #[.int .u64 id, .int .i64 ix, .int .i64 ct, .string s]) (.agg #[.int .u64 id, .int .i64 ix, .int .i64 ct, .string s])).run Try.prog u = .ok (.bool false) u by have := neqR ⟨id, ix, ct, s⟩ ⟨id, ix, ct, s⟩ u; rw [eqF_self] at this; exact this)
      have hg := guardR
      go_wp2
      go_quiet (fail)
      go_wp2
      go_roundw
      case rel => exact ⟨k + 1, by omega, by go_num, Lib.hid (HB.out.trans (drewN_below3 HB.out.size _))⟩
      case measure => simp [intOf]; omega
    · obtain rfl : k = n := by omega
      clear hlt
      go_wp2
      go_ret
      exact ⟨rfl, HB.out⟩
end Go.Proofs.Ytjimkkakcgdgfaa
