/- The program's sets: and, falling. -/
import Derived.Test.YtahlekcnleedhaaOffW
namespace Go.Proofs.Ytahlekcnleedhaa
open Go.RowKit
set_option linter.unusedVariables false
set_option linter.unusedSimpArgs false
set_option maxRecDepth 100000

set_option maxHeartbeats 1000000 in
theorem and_any (V W : Nat → Bool) (w : World) :
    Calls Try.prog 21 #[.agg (cellsOf V), .agg (cellsOf W)] w fun e w' => e = .returned (.agg (cellsOf fun j => V j && W j)) ∧ Below w.heap.size w w' := by
  have hz := zeroSet_run
  go_enter Try.func21, Try.ntmps21
  go_wp2
  go_loopw [6, 7] (fun _ i wr => ∃ k : Nat, k ≤ 256 ∧ i = .int .i64 k ∧ wr = (((w.alloc (.cells (cellsOf V) 39)).alloc (.cells (cellsOf W) 39)).alloc (.cells (cellsOf fun _ => false) 39)).alloc (.cells (cellsOf fun j => decide (j < k) && (V j && W j)) 39)) (fun _ i _ => 256 - (intOf i).toNat)
  case atStart => exact ⟨0, Nat.zero_le _, rfl, by simp⟩
  case round =>
    obtain ⟨k, hk, rfl, rfl⟩ := hrel
    by_cases hlt : k < 256
    · have hlt' : (k : Int) < 256 := by omega
      have hc1 := cellsOf_at V hlt
      have hc2 := cellsOf_at W hlt
      have hc3 := cellsOf_at (fun j => decide (j < k) && (V j && W j)) hlt
      have hend : ∀ b, (V k && W k) = b → (cellsOf fun j => decide (j < k) && (V j && W j)).setIfInBounds k (.bool b) = cellsOf fun j => decide (j < k + 1) && (V j && W j) := by
        intro b hb
        rw [cellsOf_set]
        refine cellsOf_ext fun j _ => ?_
        by_cases e : j = k
        · subst e; simp [hb]
        · have e2 : decide (j < k + 1) = decide (j < k) := by rw [decide_eq_decide]; omega
          rw [if_neg e, e2]
      have HE := Lib.hid hend
      clear hend
      cases hv : V k
      · rw [hv] at hc1
        have HV := Lib.hid hv
        clear hv
        go_wp2
        go_roundw
        case rel => exact ⟨k + 1, by omega, by go_num, by rw [HE.out false (by rw [HV.out]; rfl)]⟩
        case measure => simp [intOf]; omega
      · rw [hv] at hc1
        have HV := Lib.hid hv
        clear hv
        cases hv : W k
        all_goals
          rw [hv] at hc2
          have HW := Lib.hid hv
          clear hv
          go_wp2
          go_roundw
          case rel => exact ⟨k + 1, by omega, by go_num, by rw [HE.out _ (by rw [HV.out, HW.out]; rfl)]⟩
          case measure => simp [intOf]; omega
    · obtain rfl : k = 256 := by omega
      have e : cellsOf (fun j => decide (j < 256) && (V j && W j)) = cellsOf fun j => V j && W j := cellsOf_ext fun j hj => by simp [hj]
      rw [e]
      clear e hlt
      generalize hA : (((w.alloc (.cells (cellsOf V) 39)).alloc (.cells (cellsOf W) 39)).alloc (.cells (cellsOf fun _ => false) 39)) = w1
      have h2 : (w1.alloc (.cells (cellsOf fun j => V j && W j) 39)).heap[w.heap.size + 1 + 1]? = some (.cells (cellsOf fun _ => false) 39 (0, 0)) := by
        rw [← hA, heap_alloc_old _ _ (by simp)]
        have := heap_alloc_new ((w.alloc (.cells (cellsOf V) 39)).alloc (.cells (cellsOf W) 39)) (.cells (cellsOf fun _ => false) 39)
        simpa using this
      have h3 : (w1.alloc (.cells (cellsOf fun j => V j && W j) 39)).heap[w.heap.size + 1 + 1 + 1]? = some (.cells (cellsOf fun j => V j && W j) 39 (0, 0)) := by
        have := heap_alloc_new w1 (.cells (cellsOf fun j => V j && W j) 39)
        rw [← hA] at this ⊢
        simpa using this
      have hb : Below w.heap.size w (w1.alloc (.cells (cellsOf fun j => V j && W j) 39)) := by
        rw [← hA]
        exact ((((Below.refl _ _).alloc (Nat.le_refl _) _).alloc (by simp) _).alloc (by simp; omega) _).alloc (by simp; omega) _
      generalize w1.alloc (.cells (cellsOf fun j => V j && W j) 39) = w2 at h2 h3 hb ⊢
      have H2 := Lib.hid h2
      have H3 := Lib.hid h3
      clear h2 h3 hz hA
      go_wp2_with (refine wpList_load_row rfl 39 (.tmp 5) rfl _ rfl 39 _ _ _ H3.out Try.underlying39 rfl (by rw [cellsOf_size]; exact sizeSet) ?_; refine wpList_store_row rfl 39 (.tmp 4) (.tmp 21) rfl _ _ rfl rfl 39 _ H2.out (by rw [cellsOf_size]; exact sizeSet) (by simp only [cellsOf_size]) (cellsOf_one _) ?_)
      refine bodyPost_ret (v := .agg (cellsOf fun j => V j && W j)) ?_ rfl ⟨rfl, below_setRow hb (by omega) _⟩
      exact results_cell_row Try.results21 _ _ (w.heap.size + 1 + 1) 39 _ (0, 0) _ rfl (setRow_heap _ _ _ _ _ _ H2.out) Try.underlying39 rfl (by rw [cellsOf_size]; exact sizeSet)

theorem fallTo_yes (V : Nat → Bool) {k m : Nat} (hm : m + k = 255) (hv : V m = true) : byteL (fallTo V (k + 1)) = byteL (fallTo V k) ++ [(m : Int)] := by
  obtain rfl : m = 255 - k := by omega
  have e : (UInt8.ofNat (255 - k)).toNat = 255 - k := toNat_ofNat (by omega)
  rw [fallTo, if_pos hv]
  simp only [byteL, List.map_append, List.map_cons, List.map_nil, e]
theorem fallTo_no (V : Nat → Bool) {k m : Nat} (hm : m + k = 255) (hv : V m = false) : fallTo V (k + 1) = fallTo V k := by
  obtain rfl : m = 255 - k := by omega
  rw [fallTo, if_neg (by rw [hv]; simp), List.append_nil]
theorem byteL_len (l : List UInt8) : (byteL l).length = l.length := by simp [byteL]

set_option maxHeartbeats 1000000 in
theorem falling_any (V : Nat → Bool) (w : World) :
    Calls Try.prog 18 #[.agg (cellsOf V)] w fun e w' => e = .returned (.string ⟨(fall V).toArray⟩) ∧ Below w.heap.size w w' := by
  go_enter Try.func18, Try.ntmps18
  go_wp2
  go_loopw [3, 4, 5, 6] (fun v _ _ i wr => ∃ k : Nat, k ≤ 255 ∧ i = .int .i64 k ∧ Hid (Own 5 .u8 (w.heap.size + 1) v (byteL (fallTo V k)) wr) ∧ Hid (Below (w.heap.size + 1) (w.alloc (.cells (cellsOf V) 39)) wr)) (fun _ _ _ i _ => 255 - (intOf i).toNat)
  case atStart => exact ⟨0, Nat.zero_le _, rfl, Lib.hid (Own.nil _ _ _ _), Lib.hid (Below.refl _ _)⟩
  case round =>
    obtain ⟨k, hk, rfl, HO, HB⟩ := hrel
    have hblk : wr.heap[w.heap.size]? = some (.cells (cellsOf V) 39 (0, 0)) := (HB.out.block _ (by omega)).trans (heap_alloc_new w _)
    by_cases hlt : k < 255
    · have hlt' : (k : Int) < 255 := by omega
      obtain ⟨m, hm⟩ : ∃ m, m + k = 255 := ⟨255 - k, by omega⟩
      have hs : (255 : Int) - (k : Int) = (m : Int) := by omega
      have hm1 : (m : Int) < 256 := by omega
      have hc : wr.cell? ⟨w.heap.size, m, none⟩ = some (.bool (V m)) := by
        rw [cell_of_row wr _ m _ _ _ hblk]
        exact cellsOf_at V (by omega)
      have HM := Lib.hid hm
      have HBL : Hid (w.heap.size + 1 ≤ wr.heap.size) := Lib.hid (by have := HB.out.size; simpa using this)
      clear hblk hm
      cases hv : V m
      · rw [hv] at hc
        have HV := Lib.hid hv
        clear hv
        go_wp2
        go_roundw
        case rel => exact ⟨k + 1, by omega, by go_num, by rw [fallTo_no V HM.out HV.out]; exact HO, HB⟩
        case measure => simp [intOf]; omega
      · rw [hv] at hc
        have HV := Lib.hid hv
        clear hv
        have HL : Hid ((byteL (fallTo V k)).length < 100000) := Lib.hid (by rw [byteL_len]; have := fallTo_len V k; omega)
        go_wp2_with (at_builtin; refine wpList_app rfl (.tmp 14) (.tmp 17) 32 5 .u8 1 Try.underlying32 infoB (by decide) rfl (w.heap.size + 1) _ (byteL (fallTo V k)) m _ rfl (HO.out.below (below_alloc _ _)) wr.heap.size 1 rfl (heap_alloc_new wr _) HL.out (by have := HBL.out; simp; omega) ?_; intro v' w' hA; have HA := Lib.hid hA; clear hA)
        go_roundw
        case rel => exact ⟨k + 1, by omega, by go_num, Lib.hid (by rw [fallTo_yes V HM.out HV.out]; exact HA.out.own), Lib.hid ((HB.out.trans ((Below.refl _ _).alloc HBL.out _)).trans HA.out.low)⟩
        case measure => simp [intOf]; omega
    · obtain rfl : k = 255 := by omega
      clear hlt
      have hcv := conv_own (fall V) HO.out
      have hbb : Below w.heap.size w wr := ((Below.refl w.heap.size w).alloc (Nat.le_refl _) _).trans (HB.out.mono (by omega))
      clear hblk
      go_wp2
      go_ret
      exact ⟨rfl, hbb⟩
end Go.Proofs.Ytahlekcnleedhaa
