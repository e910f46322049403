/- Windows: a window that came in by value; the law's own copy of it for the document; the document's windows compared. -/
import Derived.Test.YtkdjlhnddnolaaaWinL
namespace Go.Proofs.Ytkdjlhnddnolaaa
open Go.RowKit
open Go.ChangeShapes Go.WideShapes
set_option linter.unusedVariables false
set_option linter.unusedSimpArgs false
set_option maxRecDepth 20000
theorem cellsWin : Try.prog.cellsOf 24 = 2 := by kernel_rfl
theorem cellsU64 : Try.prog.cellsOf 22 = 1 := by kernel_rfl
theorem open_win {H : Type} {enc : TypeId × Value → H} {w : World} {base : Nat} {sp : Nat → Bool} {held : Bool} {fuel : Nat} {cs : Array Value} {x : DataW H × List MemPlace} (h : DataW.trod enc Try.prog w base sp held fuel 24 cs.toList = some x) :
    ∃ N B : Nat, cs = #[.int .u64 (N : Int), .int .u64 (B : Int)] ∧ N ≤ 18446744073709551615 ∧ B ≤ 18446744073709551615 := by
  obtain ⟨l⟩ := cs
  obtain ⟨xs, n, _, rfl, hl, hlen, hf⟩ := DataW.trod_struct Try.underlying24 h
  rw [cellsWin] at hl
  match l, hl with
  | [v0, v1], _ =>
    match xs, hlen with
    | [y0, y1], _ =>
      have f0 : DataW.trod enc Try.prog w base sp held n 22 ((([v0, v1] : List Value).drop 0).take (Try.prog.cellsOf 22)) = some y0 := hf 0 _ rfl
      have f1 : DataW.trod enc Try.prog w base sp held n 22 ((([v0, v1] : List Value).drop 1).take (Try.prog.cellsOf 22)) = some y1 := hf 1 _ rfl
      rw [cellsU64] at f0 f1
      simp at f0 f1
      obtain ⟨N, e0, _, w0⟩ := DataW.trod_int Try.underlying22 f0
      obtain ⟨B, e1, _, w1⟩ := DataW.trod_int Try.underlying22 f1
      simp at e0 e1
      obtain ⟨a0, a1⟩ := Go.bounds_u64 w0
      obtain ⟨b0, b1⟩ := Go.bounds_u64 w1
      refine ⟨N.toNat, B.toNat, ?_, by omega, by omega⟩
      rw [Int.toNat_of_nonneg a0, Int.toNat_of_nonneg b0, e0, e1]
set_option maxHeartbeats 400000 in
theorem ref_k (N B : Int) (w : World) : Calls Try.prog 11 #[.agg #[.int .u64 N, .int .u64 B]] w fun e w' => e = .returned (.agg #[.int .u64 N, .int .u64 B]) ∧ Below w.heap.size w w' := by
  go_enter Try.func11, Try.ntmps11
  go_wp2
  exact bodyPost_ret (v := .agg #[.int .u64 N, .int .u64 B]) (by simp [results, Try.results11, go_sem]) rfl ⟨rfl, (below_alloc w _).trans ((below_alloc _ _).mono (below_alloc w _).size)⟩
theorem heldV : Try.prog.stoodInHeld 28 = false := by kernel_rfl
theorem fieldsV : Try.prog.underlying 28 = some (.struct (Try.prog.fieldsOf 28)) := by kernel_rfl
set_option maxHeartbeats 2000000 in
theorem eqInV (a b c d : Int) (w : World) : (Op.equalIn 10000 28 (.agg #[.int .u64 a, .int .u64 b]) (.agg #[.int .u64 c, .int .u64 d])).run Try.prog w = .ok (a == c && b == d) w := by
  rw [run_equalIn_agg _ _ _ _ _ fieldsV heldV]
  have hf : (Try.prog.fieldsOf 28).toList = (match Try.prog.underlying 28 with | some (.struct fs) => fs.toList | _ => []) := by kernel_rfl
  rw [hf, Try.underlying28]
  have i30 := fun (w : World) (a b : Int) => run_equalIn_int (P := Try.prog) w 9998 22 .u64 .u64 a b Try.underlying22
  simp only [Op.eqFields]
  cases h0 : (a == c)
  · go_simp
  cases h1 : (b == d)
  · go_simp
  go_simp
theorem eqlV (a b : Int) (w : World) : (binOp .eql 28 (.agg #[.int .u64 a, .int .u64 b]) (.agg #[.int .u64 a, .int .u64 b])).run Try.prog w = .ok (.bool true) w := by
  have h := eqInV a b a b w
  rw [run_eql_struct, h]; simp
end Go.Proofs.Ytkdjlhnddnolaaa
