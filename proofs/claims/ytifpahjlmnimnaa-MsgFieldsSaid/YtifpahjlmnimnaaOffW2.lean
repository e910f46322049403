/- The program's sets: and, falling. -/
import Derived.Test.YtifpahjlmnimnaaOffW
namespace Go.Proofs.Ytifpahjlmnimnaa
open Go.RowKit
set_option linter.unusedVariables false
set_option linter.unusedSimpArgs false
set_option maxRecDepth 100000


theorem fallTo_yes (V : Nat → Bool) {k m : Nat} (hm : m + k = 255) (hv : V m = true) : byteL (fallTo V (k + 1)) = byteL (fallTo V k) ++ [(m : Int)] := by
  obtain rfl : m = 255 - k := by omega
  have e : (UInt8.ofNat (255 - k)).toNat = 255 - k := toNat_ofNat (by omega)
  rw [fallTo, if_pos hv]
  simp only [byteL, List.map_append, List.map_cons, List.map_nil, e]
theorem fallTo_no (V : Nat → Bool) {k m : Nat} (hm : m + k = 255) (hv : V m = false) : fallTo V (k + 1) = fallTo V k := by
  obtain rfl : m = 255 - k := by omega
  rw [fallTo, if_neg (by rw [hv]; simp), List.append_nil]
theorem byteL_len (l : List UInt8) : (byteL l).length = l.length := by simp [byteL]

set_option maxHeartbeats 1000000 in
theorem falling_any (V : Nat → Bool) (w : World) :
    Calls Try.prog 73 #[.agg (cellsOf V)] w fun e w' => e = .returned (.string ⟨(fall V).toArray⟩) ∧ Below w.heap.size w w' := by
  go_enter Try.func73, Try.ntmps73
  go_wp2
  go_loopw [3, 4, 5, 6] (fun v _ _ i wr => ∃ k : Nat, k ≤ 255 ∧ i = .int .i64 k ∧ Hid (Own 5 .u8 (w.heap.size + 1) v (byteL (fallTo V k)) wr) ∧ Hid (Below (w.heap.size + 1) (w.alloc (.cells (cellsOf V) 109)) wr)) (fun _ _ _ i _ => 255 - (intOf i).toNat)
  case atStart => exact ⟨0, Nat.zero_le _, rfl, Lib.hid (Own.nil _ _ _ _), Lib.hid (Below.refl _ _)⟩
  case round =>
    obtain ⟨k, hk, rfl, HO, HB⟩ := hrel
    have hblk : wr.heap[w.heap.size]? = some (.cells (cellsOf V) 109 (0, 0)) := (HB.out.block _ (by omega)).trans (heap_alloc_new w _)
    by_cases hlt : k < 255
    · have hlt' : (k : Int) < 255 := by omega
      obtain ⟨m, hm⟩ : ∃ m, m + k = 255 := ⟨255 - k, by omega⟩
      have hs : (255 : Int) - (k : Int) = (m : Int) := by omega
      have hm1 : (m : Int) < 256 := by omega
      have hc : wr.cell? ⟨w.heap.size, m, none⟩ = some (.bool (V m)) := by
        rw [cell_of_row wr _ m _ _ _ hblk]
        exact cellsOf_at V (by omega)
      have HM := Lib.hid hm
      have HBL : Hid (w.heap.size + 1 ≤ wr.heap.size) := Lib.hid (by have := HB.out.size; simpa using this)
      clear hblk hm
      cases hv : V m
      · rw [hv] at hc
        have HV := Lib.hid hv
        clear hv
        go_wp2
        go_roundw
        case rel => exact ⟨k + 1, by omega, by go_num, by rw [fallTo_no V HM.out HV.out]; exact HO, HB⟩
        case measure => simp [intOf]; omega
      · rw [hv] at hc
        have HV := Lib.hid hv
        clear hv
        have HL : Hid ((byteL (fallTo V k)).length < 100000) := Lib.hid (by rw [byteL_len]; have := fallTo_len V k; omega)
        go_wp2_with (at_builtin; refine wpList_app rfl (.tmp 14) (.tmp 17) 43 5 .u8 1 Try.underlying43 infoB (by decide) rfl (w.heap.size + 1) _ (byteL (fallTo V k)) m _ rfl (HO.out.below (below_alloc _ _)) wr.heap.size 1 rfl (heap_alloc_new wr _) HL.out (by have := HBL.out; simp; omega) ?_; intro v' w' hA; have HA := Lib.hid hA; clear hA)
        go_roundw
        case rel => exact ⟨k + 1, by omega, by go_num, Lib.hid (by rw [fallTo_yes V HM.out HV.out]; exact HA.out.own), Lib.hid ((HB.out.trans ((Below.refl _ _).alloc HBL.out _)).trans HA.out.low)⟩
        case measure => simp [intOf]; omega
    · obtain rfl : k = 255 := by omega
      clear hlt
      have hcv := conv_own (fall V) HO.out
      have hbb : Below w.heap.size w wr := ((Below.refl w.heap.size w).alloc (Nat.le_refl _) _).trans (HB.out.mono (by omega))
      clear hblk
      go_wp2
      go_ret
      exact ⟨rfl, hbb⟩
end Go.Proofs.Ytifpahjlmnimnaa
