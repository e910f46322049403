/- Rows of parts: the law's Refs. -/
import Derived.Test.YtjimkkakcgdgfaaRowS
namespace Go.Proofs.Ytjimkkakcgdgfaa
open Go.RowKit
set_option linter.unusedVariables false
set_option linter.unusedSimpArgs false
set_option maxRecDepth 20000

theorem take_getF {fs : List Fr} {k : Nat} (h : k < fs.length) : fs.take (k + 1) = fs.take k ++ [fs.getD k zeroF] := by
  rw [List.take_succ_eq_append_getElem h]; simp [List.getD, h]
set_option maxHeartbeats 4000000 in
set_option maxRecDepth 100000 in
theorem refs_f (a : Option Addr) (n cap : Nat) (fs : List Fr) (w : World) (hn : n = fs.length) (h : RowF w a cap fs) (hm : n ≤ 1000) :
    Calls Try.prog 14 #[.slice a n cap] w fun e w' => ∃ v, e = .returned v ∧ OwnF 43 w.heap.size v fs w' ∧ Below w.heap.size w w' := by
  have HR1 := Lib.hid h
  have HN := Lib.hid hn
  clear h hn
  have HO0 : Hid (OwnF 43 w.heap.size (.slice (some ⟨w.heap.size, 0, none⟩) 0 0) (fs.take 0) (w.alloc (.cells #[] 43))) := Lib.hid (OwnF.new _ _ (Nat.le_refl _))
  have HB0 : Hid (Below w.heap.size w (w.alloc (.cells #[] 43))) := Lib.hid (below_alloc _ _)
  go_enter Try.func14, Try.ntmps14
  go_wp2_with fail
  go_loopw [3, 4] (fun v i wr => ∃ (k : Nat), k ≤ n ∧ i = .int .i64 k ∧ Hid (OwnF 43 w.heap.size v (fs.take k) wr) ∧ Hid (Below w.heap.size w wr)) (fun _ i _ => n - (intOf i).toNat)
  case atStart => exact ⟨0, Nat.zero_le _, rfl, HO0, HB0⟩
  case round =>
    clear HO0 HB0
    obtain ⟨k, hk, rfl, HO, HB⟩ := hrel
    by_cases hlt : k < n
    · have hlt' : (k : Int) < (n : Int) := by omega
      obtain ⟨b1, f1, rfl, c0, c1, c2, c3⟩ := frow_cell HR1.out (j := k) (by rw [← HN.out]; exact hlt)
      replace c0 := (HB.out.cell (block_lt_of_cell c0)).trans c0
      replace c1 := (HB.out.cell (block_lt_of_cell c1)).trans c1
      replace c2 := (HB.out.cell (block_lt_of_cell c2)).trans c2
      replace c3 := (HB.out.cell (block_lt_of_cell c3)).trans c3
      have HT : Hid (fs.take (k + 1) = fs.take k ++ [fs.getD k zeroF]) := Lib.hid (take_getF (by rw [← HN.out]; exact hlt))
      have HL : Hid ((fs.take k).length < 100000) := Lib.hid (by rw [List.length_take]; omega)
      generalize fs.getD k zeroF = z at c0 c1 c2 c3 HT
      obtain ⟨id, ix, ct, s⟩ := z
      dsimp only at c0 c1 c2 c3
      have HK := Lib.hid hlt
      clear hlt
      go_wp2_with fail
      refine (one_f id ix ct s _).mono ?_
      rintro e w1 ⟨rfl, hb⟩
      have HO1 := Lib.hid (HO.out.below hb)
      have HB1 := Lib.hid (HB.out.trans (hb.mono HB.out.size))
      clear hb c0 c1 c2 c3 HO HB
      go_wp2_with (at_builtin; refine wpList_appF rfl (.tmp 12) (.tmp 18) 31 43 Try.underlying31 infoR rfl w.heap.size _ (fs.take k) ⟨id, ix, ct, s⟩ _ rfl (HO1.out.below (below_alloc _ _)) w1.heap.size 1 rfl (heap_alloc_new w1 _) HL.out (by have := HB1.out.size; simp; omega) ?_; intro v' w2 hA; have HA := Lib.hid hA; clear hA)
      go_roundw
      case rel => exact ⟨k + 1, by have := HK.out; omega, by go_num, Lib.hid (by rw [HT.out]; exact HA.out.own), Lib.hid (HB1.out.trans ((below_alloc w1 (.cells #[.int .u64 id, .int .i64 ix, .int .i64 ct, .string s] 43)).mono HB1.out.size |>.trans HA.out.low))⟩
      case measure => have := HK.out; simp [intOf]; omega
    · obtain rfl : k = n := by omega
      have HE : Hid (fs.take k = fs) := Lib.hid (by rw [List.take_of_length_le (by rw [← HN.out]; exact Nat.le_refl _)])
      clear hlt
      go_wp2
      go_ret
      exact ⟨_, rfl, by have := HO.out; rw [HE.out] at this; exact this, HB.out⟩
end Go.Proofs.Ytjimkkakcgdgfaa
