/- The program's sets: setOf. -/
import Derived.Test.YtifpahjlmnimnaaOffB
namespace Go.Proofs.Ytifpahjlmnimnaa
open Go.RowKit
set_option linter.unusedVariables false
set_option linter.unusedSimpArgs false
set_option maxRecDepth 100000

theorem take_snocB (s : ByteArray) (k : Nat) (h : k < s.size) : s.data.toList.take (k + 1) = s.data.toList.take k ++ [s[k]] := by
  rw [List.take_succ_eq_append_getElem (by simpa using h)]; rfl

theorem below_setRow {B g : Nat} {w w' : World} (h : Below B w w') (hg : B ≤ g) (c : Array Value) : Below B w (w'.setRow g c) :=
  ⟨h.os, h.tape, h.output, by have := h.size; simpa using this, fun k hk => (setRow_other w' g k c (by omega)).trans (h.block k hk)⟩

set_option maxHeartbeats 1000000 in
theorem setOf_any (s : ByteArray) (w : World) (hs : s.size ≤ maxLen) :
    Calls Try.prog 72 #[.string s] w fun e w' => e = .returned (.agg (cellsOf (inB s.data.toList))) ∧ Below w.heap.size w w' := by
  unfold maxLen at hs
  have hz := zeroSet_run
  go_enter Try.func72, Try.ntmps72
  go_wp2
  go_loopw [4, 7] (fun _ i wr => ∃ k : Nat, k ≤ s.size ∧ i = .int .i64 k ∧ wr = (w.alloc (.cells (cellsOf fun _ => false) 109)).alloc (.cells (cellsOf (inB (s.data.toList.take k))) 109)) (fun _ i _ => s.size - (intOf i).toNat)
  case atStart => exact ⟨0, Nat.zero_le _, rfl, by simp only [List.take_zero]; rfl⟩
  case round =>
    obtain ⟨k, hk, rfl, rfl⟩ := hrel
    by_cases hlt : k < s.size
    · have hlt' : (k : Int) < (s.size : Int) := by omega
      have hcb := UInt8.toNat_lt s[k]
      have hcell := cellsOf_at (inB (s.data.toList.take k)) hcb
      have HT := Lib.hid (take_snocB s k hlt)
      go_wp2
      go_roundw
      case rel =>
        refine ⟨k + 1, by omega, by go_num, ?_⟩
        congr 2
        rw [cellsOf_set, HT.out]
        refine cellsOf_ext fun j _ => ?_
        rw [inB_snoc]
        by_cases e : j = s[k].toNat
        · subst e; simp
        · rw [if_neg e]; simp; intro h; exact absurd h.symm e
      case measure => simp [intOf]; omega
    · obtain rfl : k = s.size := by omega
      have e : s.data.toList.take s.size = s.data.toList := List.take_of_length_le (by simp)
      rw [e]
      clear e hlt
      have hn : ¬ ((s.size : Int) < (s.size : Int)) := by omega
      have h2 := heap_alloc2_old w (.cells (cellsOf fun _ => false) 109) (.cells (cellsOf (inB s.data.toList)) 109)
      have h3 := heap_alloc2_new w (.cells (cellsOf fun _ => false) 109) (.cells (cellsOf (inB s.data.toList)) 109)
      have hb : Below w.heap.size w ((w.alloc (.cells (cellsOf fun _ => false) 109)).alloc (.cells (cellsOf (inB s.data.toList)) 109)) := ((Below.refl _ _).alloc (Nat.le_refl _) _).alloc (by simp) _
      generalize ((w.alloc (.cells (cellsOf fun _ => false) 109)).alloc (.cells (cellsOf (inB s.data.toList)) 109)) = w2 at h2 h3 hb ⊢
      have H2 := Lib.hid h2
      have H3 := Lib.hid h3
      clear h2 h3 hz
      go_wp2_with (refine wpList_load_row rfl 109 (.tmp 3) rfl _ rfl 109 _ _ _ H3.out Try.underlying109 rfl (by rw [cellsOf_size]; exact sizeSet) ?_; refine wpList_store_row rfl 109 (.tmp 2) (.tmp 15) rfl _ _ rfl rfl 109 _ H2.out (by rw [cellsOf_size]; exact sizeSet) (by simp only [cellsOf_size]) (cellsOf_one _) ?_)
      refine bodyPost_ret (v := .agg (cellsOf (inB s.data.toList))) ?_ rfl ⟨rfl, below_setRow hb (Nat.le_refl _) _⟩
      exact results_cell_row Try.results72 _ _ w.heap.size 109 _ (0, 0) _ rfl (setRow_heap _ _ _ _ _ _ H2.out) Try.underlying109 rfl (by rw [cellsOf_size]; exact sizeSet)
end Go.Proofs.Ytifpahjlmnimnaa
