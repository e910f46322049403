/- The law OfferBoth returns true for any two rows of bytes, and its arguments read as they did. No conditions. -/
import Derived.Test.YtahlekcnleedhaaRows
import Derived.Test.YtahlekcnleedhaaOffN
import Derived.WalkKit
import Derived.ProofKit
import Derived.OpenShut
import Derived.ShutString
import Derived.ChangeOld
import Derived.Below
namespace Go.Proofs.Ytahlekcnleedhaa.offerBoth
open Go.ChangeShapes Go.WideShapes Go.ChangeAt Go.RowKit
open Go.ChangeMaps (open_string shut_string)
open Go.Proofs.Ytahlekcnleedhaa
set_option linter.unusedVariables false
set_option linter.unusedSimpArgs false
set_option maxRecDepth 20000

theorem own : ownKnob Try.prog.godebug = none := by kernel_rfl
theorem laidOut : laidOutB Try.prog = true := by kernel_rfl


set_option maxHeartbeats 8000000 in
set_option maxRecDepth 100000 in
theorem walkN (a0 : Option Addr) (len0 cap0 : Nat) (k0s : List Int) (a1 : Option Addr) (len1 cap1 : Nat) (k1s : List Int) (w : World) (hl0 : k0s.length = len0) (hr0 : RowAt .u8 w a0 cap0 k0s) (hw0 : ∀ x, x ∈ k0s → (Lit.int .u8 x).wf = true) (hm0 : len0 ≤ 9223372036854775807) (hl1 : k1s.length = len1) (hr1 : RowAt .u8 w a1 cap1 k1s) (hw1 : ∀ x, x ∈ k1s → (Lit.int .u8 x).wf = true) (hm1 : len1 ≤ 9223372036854775807) :
    Calls Try.prog 5 #[.slice a0 len0 cap0, .slice a1 len1 cap1] w fun e w' => e = .returned (.bool true) ∧ Below w.heap.size w w' := by
  have HL0 := Lib.hid hl0
  have HR0 := Lib.hid hr0
  have HW0 := Lib.hid hw0
  clear hl0 hr0 hw0
  have HL1 := Lib.hid hl1
  have HR1 := Lib.hid hr1
  have HW1 := Lib.hid hw1
  clear hl1 hr1 hw1
  have HST : Hid (RowsOk w.heap.size [(.slice (some ⟨w.heap.size, 0, none⟩) 0 0, picks (k0s.take 0)), (.slice (some ⟨w.heap.size + 1, 0, none⟩) 0 0, [])] ((w.alloc (.cells #[] 3)).alloc (.cells #[] 3))) := Lib.hid (by
    have h1 := (RowsOk.nil w.heap.size w).lit (Nat.le_refl _) [] 0 rfl (by omega) #[] rfl
    have h2 := h1.lit (by simp) [] 0 rfl (by omega) #[] rfl
    have h3 := h2.swap
    simpa [picks] using h3)
  go_enter Try.func5, Try.ntmps5
  go_wp2_with fail
  go_loopw [5, 7] (fun s j wr => ∃ (k : Nat) (a : Option Addr) (cap : Nat), k ≤ 8 ∧ k ≤ len0 ∧ j = .int .i64 k ∧ s = .slice a k cap ∧ Hid (RowsOk w.heap.size ([] ++ (.slice a k cap, picks (k0s.take k)) :: [(.slice (some ⟨w.heap.size + 1, 0, none⟩) 0 0, [])]) wr) ∧ Hid (Below w.heap.size w wr)) (fun _ j _ => 8 - (intOf j).toNat)
  case atStart => exact ⟨0, some ⟨w.heap.size, 0, none⟩, 0, Nat.zero_le _, Nat.zero_le _, rfl, rfl, Lib.hid HST.out, Lib.hid ((below_alloc w _).trans ((Below.refl _ _).alloc (by simp) _))⟩
  case round =>
    obtain ⟨k, a, cap, hk1, hk2, rfl, rfl, HRW, HB⟩ := hrel
    by_cases hlt : k < len0 ∧ k < 8
    · obtain ⟨h1, h2⟩ := hlt
      obtain ⟨q1, q2, bk, off, q3⟩ := HR0.out
      obtain ⟨hqa, hc⟩ := q3 k (by rw [HL0.out]; exact h1)
      subst hqa
      have hzw := bounds_u8 (HW0.out _ (getD_mem (ks := k0s) (k := k) (by rw [HL0.out]; exact h1)))
      obtain ⟨z0, z1⟩ := hzw
      have htk := take_getD (ks := k0s) (k := k) (by rw [HL0.out]; exact h1)
      have hc2 : wr.cell? ⟨bk, off + k, none⟩ = some (.int .u8 (k0s.getD k 0)) := (HB.out.cell (block_lt_of_cell hc)).trans hc
      generalize k0s.getD k 0 = z at z0 z1 htk hc2
      clear hc q1 q2 q3
      have HTK := Lib.hid htk
      clear htk
      have HLN : Hid ((picks (k0s.take k)).length = k) := Lib.hid (by rw [picks_len, List.length_take, HL0.out]; omega)
      have e1 : decide (k < len0) = true := by simpa using h1
      have e2 : decide (k < 8) = true := by simpa using h2
      have e3 : decide ((k : Int) < 8) = true := decide_eq_true (by omega)
      have h3 : (k : Int) < (len0 : Int) := by omega
      have HI := Lib.hid (And.intro h1 h2)
      clear h1 h2 hk1 hk2
      go_wp2_with (at_builtin; refine wpList_push rfl (.tmp 30) (.tmp 38) rfl w.heap.size ([]) ([(.slice (some ⟨w.heap.size + 1, 0, none⟩) 0 0, [])]) _ (picks (k0s.take k)) (1 + z % 255) wr HRW.out rfl rfl k HLN.out (by have := HI.out; omega) HB.out.size ?_; intro g3 cap3 w6 hR6 hB6; have HR6 := Lib.hid hR6; have HB6 := Lib.hid hB6; clear hR6 hB6)
      go_roundw
      case rel => exact ⟨k + 1, some ⟨g3, 0, none⟩, cap3, by have := HI.out; omega, by have := HI.out; omega, by go_num, rfl, Lib.hid (by rw [HTK.out, picks_snoc]; exact HR6.out), Lib.hid (HB.out.trans HB6.out)⟩
      case measure => have := HI.out; simp [intOf]; omega
    · have e12 : decide (k < len0) = false ∨ (decide (k < len0) = true ∧ decide ((k : Int) < 8) = false) := by
        simp only [decide_eq_false_iff_not, decide_eq_true_eq]
        omega
      have HK : Hid (k0s.take k = k0s.take 8) := Lib.hid (by
        rcases Nat.lt_or_ge k 8 with q | q
        · rw [List.take_of_length_le (by rw [HL0.out]; omega), List.take_of_length_le (by rw [HL0.out]; omega)]
        · rw [show k = 8 by omega])
      have HKL : Hid ((picks (k0s.take k)).length = k) := Lib.hid (by rw [picks_len, List.length_take, HL0.out]; omega)
      have HK8 := Lib.hid hk1
      clear hlt hk1 hk2
      rcases e12 with e1 | ⟨e1, e2⟩
      all_goals
        obtain ⟨xs, hxs⟩ : ∃ xs, picks (k0s.take k) = xs := ⟨_, rfl⟩
        rw [hxs] at HRW HKL
        have HOK0 : Hid (okV xs = true) := Lib.hid (by rw [← hxs]; exact picks_ok _)
        have HXW0 : Hid (∀ x, x ∈ xs → (Lit.int .i64 x).wf = true) := Lib.hid (ok_wf HOK0.out)
        have HXL0 := Lib.hid HKL.out.symm
        have HK80 := HK8
        clear hxs HKL HK8 HK
        go_wp2_with fail
        go_loopw [6, 8] (fun s j wr => ∃ (m : Nat) (b : Option Addr) (cb : Nat), m ≤ 8 ∧ m ≤ len1 ∧ j = .int .i64 m ∧ s = .slice b m cb ∧ Hid (RowsOk w.heap.size ([(.slice a k cap, xs)] ++ (.slice b m cb, picks (k1s.take m)) :: []) wr) ∧ Hid (Below w.heap.size w wr)) (fun _ j _ => 8 - (intOf j).toNat)
        case atStart => exact ⟨0, some ⟨w.heap.size + 1, 0, none⟩, 0, Nat.zero_le _, Nat.zero_le _, rfl, rfl, Lib.hid HRW.out, HB⟩
        case round =>
          clear HRW HB
          obtain ⟨m, b, cb, hk1, hk2, rfl, rfl, HRW, HB⟩ := hrel
          by_cases hlt : m < len1 ∧ m < 8
          · obtain ⟨h1, h2⟩ := hlt
            obtain ⟨q1, q2, bk, off, q3⟩ := HR1.out
            obtain ⟨hqa, hc⟩ := q3 m (by rw [HL1.out]; exact h1)
            subst hqa
            have hzw := bounds_u8 (HW1.out _ (getD_mem (ks := k1s) (k := m) (by rw [HL1.out]; exact h1)))
            obtain ⟨z0, z1⟩ := hzw
            have htk := take_getD (ks := k1s) (k := m) (by rw [HL1.out]; exact h1)
            have hc2 : wr.cell? ⟨bk, off + m, none⟩ = some (.int .u8 (k1s.getD m 0)) := (HB.out.cell (block_lt_of_cell hc)).trans hc
            generalize k1s.getD m 0 = z at z0 z1 htk hc2
            clear hc q1 q2 q3
            have HTK := Lib.hid htk
            clear htk
            have HLN : Hid ((picks (k1s.take m)).length = m) := Lib.hid (by rw [picks_len, List.length_take, HL1.out]; omega)
            have e1 : decide (m < len1) = true := by simpa using h1
            have e2 : decide (m < 8) = true := by simpa using h2
            have e3 : decide ((m : Int) < 8) = true := decide_eq_true (by omega)
            have h3 : (m : Int) < (len1 : Int) := by omega
            have HI := Lib.hid (And.intro h1 h2)
            clear h1 h2 hk1 hk2
            go_wp2_with (at_builtin; refine wpList_push rfl (.tmp 50) (.tmp 58) rfl w.heap.size ([(.slice a k cap, xs)]) ([]) _ (picks (k1s.take m)) (1 + z % 255) wr HRW.out rfl rfl m HLN.out (by have := HI.out; omega) HB.out.size ?_; intro g3 cap3 w6 hR6 hB6; have HR6 := Lib.hid hR6; have HB6 := Lib.hid hB6; clear hR6 hB6)
            go_roundw
            case rel => exact ⟨m + 1, some ⟨g3, 0, none⟩, cap3, by have := HI.out; omega, by have := HI.out; omega, by go_num, rfl, Lib.hid (by rw [HTK.out, picks_snoc]; exact HR6.out), Lib.hid (HB.out.trans HB6.out)⟩
            case measure => have := HI.out; simp [intOf]; omega
          · have e12 : decide (m < len1) = false ∨ (decide (m < len1) = true ∧ decide ((m : Int) < 8) = false) := by
              simp only [decide_eq_false_iff_not, decide_eq_true_eq]
              omega
            have HK : Hid (k1s.take m = k1s.take 8) := Lib.hid (by
              rcases Nat.lt_or_ge m 8 with q | q
              · rw [List.take_of_length_le (by rw [HL1.out]; omega), List.take_of_length_le (by rw [HL1.out]; omega)]
              · rw [show m = 8 by omega])
            have HKL : Hid ((picks (k1s.take m)).length = m) := Lib.hid (by rw [picks_len, List.length_take, HL1.out]; omega)
            have HK8 := Lib.hid hk1
            clear hlt hk1 hk2
            rcases e12 with e1 | ⟨e1, e2⟩
            all_goals
              obtain ⟨ys, hxs⟩ : ∃ ys, picks (k1s.take m) = ys := ⟨_, rfl⟩
              rw [hxs] at HRW HKL
              have HOK1 : Hid (okV ys = true) := Lib.hid (by rw [← hxs]; exact picks_ok _)
              have HXW1 : Hid (∀ x, x ∈ ys → (Lit.int .i64 x).wf = true) := Lib.hid (ok_wf HOK1.out)
              have HXL1 := Lib.hid HKL.out.symm
              have HK81 := HK8
              clear hxs HKL HK8 HK
              have HRX0 : Hid (RowAt .i64 wr a cap xs) := Lib.hid (HRW.out.rowAt (n := k) (by simp)).2
              have HRX1 : Hid (RowAt .i64 wr b cb ys) := Lib.hid (HRW.out.rowAt (n := m) (by simp)).2
              clear HRW
              by_cases h0 : k = 0
              · have z0 : ((k : Int) == 0) = true := by simp [h0]
                have NE0 : Hid ((⟨#[]⟩ : ByteArray).data.toList = makeS xs ∧ makeE xs = 1) := Lib.hid (by
                  have e : xs = [] := List.eq_nil_of_length_eq_zero (by rw [← HXL0.out, h0])
                  rw [e]; exact ⟨rfl, rfl⟩)
                clear h0
                by_cases h1 : m = 0
                · have z1 : ((m : Int) == 0) = true := by simp [h1]
                  have NE1 : Hid ((⟨#[]⟩ : ByteArray).data.toList = makeS ys ∧ makeE ys = 1) := Lib.hid (by
                    have e : ys = [] := List.eq_nil_of_length_eq_zero (by rw [← HXL1.out, h1])
                    rw [e]; exact ⟨rfl, rfl⟩)
                  clear h1
                  go_wp2_with fail
                  refine (make_any a k cap xs _ HXL0.out HRX0.out HXW0.out ⟨#[]⟩ 1 (Lib.hid NE0.out.1) (Lib.hid NE0.out.2)).mono ?_
                  rintro e v1 ⟨rfl, hb⟩
                  have J1 := Lib.hid (hb)
                  clear hb
                  go_wp2_with fail
                  refine (make_any b m cb ys _ HXL1.out (HRX1.out.below J1.out) HXW1.out ⟨#[]⟩ 1 (Lib.hid NE1.out.1) (Lib.hid NE1.out.2)).mono ?_
                  rintro e v2 ⟨rfl, hb⟩
                  have J2 := Lib.hid (J1.out.trans (hb.mono J1.out.size))
                  clear hb J1
                  go_wp2_with fail
                  refine (fixed_any _).mono ?_
                  rintro e v3 ⟨rfl, hb⟩
                  have J3 := Lib.hid (J2.out.trans (hb.mono J2.out.size))
                  clear hb J2
                  go_wp2_with fail
                  go_ret
                  exact ⟨rfl, HB.out.trans (J3.out.mono HB.out.size)⟩
                · have hg := make_good HOK1.out (fun e => h1 (by have := HXL1.out; rw [e] at this; simpa using this)) (by rw [← HXL1.out]; exact HK81.out)
                  obtain ⟨s1, hs⟩ := text_of (makeS ys)
                  have HS1 := Lib.hid hs
                  have HSR1 : Hid (rightB s1.data.toList = true) := Lib.hid (by rw [hs]; exact hg.2.2.2)
                  have HE1 : Hid (makeE ys = 0) := Lib.hid hg.2.2.1
                  have HZ1 : Hid (s1.size ≤ maxLen) := Lib.hid (by
                    have := (right_iff.1 HSR1.out).2.1
                    rw [text_size] at this
                    unfold maxLen; omega)
                  have z1 : ((m : Int) == 0) = false := by simpa using h1
                  clear hg hs h1
                  go_wp2_with fail
                  refine (make_any a k cap xs _ HXL0.out HRX0.out HXW0.out ⟨#[]⟩ 1 (Lib.hid NE0.out.1) (Lib.hid NE0.out.2)).mono ?_
                  rintro e v1 ⟨rfl, hb⟩
                  have J1 := Lib.hid (hb)
                  clear hb
                  go_wp2_with fail
                  refine (make_any b m cb ys _ HXL1.out (HRX1.out.below J1.out) HXW1.out s1 0 HS1 HE1).mono ?_
                  rintro e v2 ⟨rfl, hb⟩
                  have J2 := Lib.hid (J1.out.trans (hb.mono J1.out.size))
                  clear hb J1
                  go_wp2_with fail
                  refine (fixed_any _).mono ?_
                  rintro e v3 ⟨rfl, hb⟩
                  have J3 := Lib.hid (J2.out.trans (hb.mono J2.out.size))
                  clear hb J2
                  go_wp2_with fail
                  go_ret
                  exact ⟨rfl, HB.out.trans (J3.out.mono HB.out.size)⟩
              · have hg := make_good HOK0.out (fun e => h0 (by have := HXL0.out; rw [e] at this; simpa using this)) (by rw [← HXL0.out]; exact HK80.out)
                obtain ⟨s0, hs⟩ := text_of (makeS xs)
                have HS0 := Lib.hid hs
                have HSR0 : Hid (rightB s0.data.toList = true) := Lib.hid (by rw [hs]; exact hg.2.2.2)
                have HE0 : Hid (makeE xs = 0) := Lib.hid hg.2.2.1
                have HZ0 : Hid (s0.size ≤ maxLen) := Lib.hid (by
                  have := (right_iff.1 HSR0.out).2.1
                  rw [text_size] at this
                  unfold maxLen; omega)
                have z0 : ((k : Int) == 0) = false := by simpa using h0
                clear hg hs h0
                by_cases h1 : m = 0
                · have z1 : ((m : Int) == 0) = true := by simp [h1]
                  have NE1 : Hid ((⟨#[]⟩ : ByteArray).data.toList = makeS ys ∧ makeE ys = 1) := Lib.hid (by
                    have e : ys = [] := List.eq_nil_of_length_eq_zero (by rw [← HXL1.out, h1])
                    rw [e]; exact ⟨rfl, rfl⟩)
                  clear h1
                  go_wp2_with fail
                  refine (make_any a k cap xs _ HXL0.out HRX0.out HXW0.out s0 0 HS0 HE0).mono ?_
                  rintro e v1 ⟨rfl, hb⟩
                  have J1 := Lib.hid (hb)
                  clear hb
                  go_wp2_with fail
                  refine (make_any b m cb ys _ HXL1.out (HRX1.out.below J1.out) HXW1.out ⟨#[]⟩ 1 (Lib.hid NE1.out.1) (Lib.hid NE1.out.2)).mono ?_
                  rintro e v2 ⟨rfl, hb⟩
                  have J2 := Lib.hid (J1.out.trans (hb.mono J1.out.size))
                  clear hb J1
                  go_wp2_with fail
                  refine (fixed_any _).mono ?_
                  rintro e v3 ⟨rfl, hb⟩
                  have J3 := Lib.hid (J2.out.trans (hb.mono J2.out.size))
                  clear hb J2
                  go_wp2_with fail
                  go_ret
                  exact ⟨rfl, HB.out.trans (J3.out.mono HB.out.size)⟩
                · have hg := make_good HOK1.out (fun e => h1 (by have := HXL1.out; rw [e] at this; simpa using this)) (by rw [← HXL1.out]; exact HK81.out)
                  obtain ⟨s1, hs⟩ := text_of (makeS ys)
                  have HS1 := Lib.hid hs
                  have HSR1 : Hid (rightB s1.data.toList = true) := Lib.hid (by rw [hs]; exact hg.2.2.2)
                  have HE1 : Hid (makeE ys = 0) := Lib.hid hg.2.2.1
                  have HZ1 : Hid (s1.size ≤ maxLen) := Lib.hid (by
                    have := (right_iff.1 HSR1.out).2.1
                    rw [text_size] at this
                    unfold maxLen; omega)
                  have z1 : ((m : Int) == 0) = false := by simpa using h1
                  clear hg hs h1
                  obtain ⟨v, er, hbe⟩ : ∃ v er, BestIs s0 s1 v er := ⟨_, _, rfl, rfl⟩
                  have hbe2 : BestIs s1 s0 v er := by
                    have := best_comm s0.data.toList s1.data.toList
                    exact ⟨by rw [← this.1]; exact hbe.1, by rw [← this.2]; exact hbe.2⟩
                  obtain ⟨c, hc⟩ := text_of (bothS s0.data.toList s1.data.toList)
                  have HBT := Lib.hid hc
                  have HBT2 : Hid (c.data.toList = bothS s1.data.toList s0.data.toList) := Lib.hid (by rw [hc, both_comm])
                  have HBE := Lib.hid hbe
                  have HBE2 := Lib.hid hbe2
                  have hcs := best_cases hbe
                  have hff : formB s0.data.toList s1.data.toList = true := formB_iff.2 ⟨HSR0.out, HSR1.out⟩
                  rw [hff] at hcs
                  have HFF := Lib.hid hff
                  have HC := Lib.hid hc
                  clear hbe hbe2 hc hff
                  rcases hcs with ⟨q, _⟩ | ⟨_, q1, q2, q3, _⟩ | ⟨_, q1, q1', q2, q3, _⟩
                  · cases q
                  · subst q1
                    subst q2
                    obtain rfl : c = ⟨#[]⟩ := text_ext (by rw [HC.out, q3])
                    clear q3
                    go_wp2_with fail
                    refine (make_any a k cap xs _ HXL0.out HRX0.out HXW0.out s0 0 HS0 HE0).mono ?_
                    rintro e v1 ⟨rfl, hb⟩
                    have J1 := Lib.hid (hb)
                    clear hb
                    go_wp2_with fail
                    refine (make_any b m cb ys _ HXL1.out (HRX1.out.below J1.out) HXW1.out s1 0 HS1 HE1).mono ?_
                    rintro e v2 ⟨rfl, hb⟩
                    have J2 := Lib.hid (J1.out.trans (hb.mono J1.out.size))
                    clear hb J1
                    go_wp2_with fail
                    refine (both_any s0 s1 _ HZ0.out HZ1.out ⟨#[]⟩ HBT).mono ?_
                    rintro e v3 ⟨rfl, hb⟩
                    have J3 := Lib.hid (J2.out.trans (hb.mono J2.out.size))
                    clear hb J2
                    go_wp2_with fail
                    refine (best_any s0 s1 _ HZ0.out HZ1.out 0 11 HBE).mono ?_
                    rintro e v4 ⟨rfl, hb⟩
                    have J4 := Lib.hid (J3.out.trans (hb.mono J3.out.size))
                    clear hb J3
                    go_wp2_with fail
                    refine (best_any s1 s0 _ HZ1.out HZ0.out 0 11 HBE2).mono ?_
                    rintro e v5 ⟨rfl, hb⟩
                    have J5 := Lib.hid (J4.out.trans (hb.mono J4.out.size))
                    clear hb J4
                    go_wp2_with fail
                    refine (both_any s1 s0 _ HZ1.out HZ0.out ⟨#[]⟩ HBT2).mono ?_
                    rintro e v6 ⟨rfl, hb⟩
                    have J6 := Lib.hid (J5.out.trans (hb.mono J5.out.size))
                    clear hb J5
                    go_wp2_with fail
                    refine (fixed_any _).mono ?_
                    rintro e v7 ⟨rfl, hb⟩
                    have J7 := Lib.hid (J6.out.trans (hb.mono J6.out.size))
                    clear hb J6
                    go_wp2_with fail
                    go_ret
                    exact ⟨rfl, HB.out.trans (J7.out.mono HB.out.size)⟩
                  · subst q2
                    have HCR : Hid (rightB c.data.toList = true) := Lib.hid (by rw [HC.out]; exact both_right HFF.out q3)
                    have hcz := right_iff.1 HCR.out
                    rw [text_size] at hcz
                    have HCZ : Hid (c.size ≤ maxLen) := Lib.hid (by unfold maxLen; omega)
                    have HBS : Hid (s0.data.toList = bothS s0.data.toList s0.data.toList) := Lib.hid (both_self HSR0.out).symm
                    have h0 : 0 < c.size := by omega
                    have hne : c.toList.isEmpty = false := by
                      rw [ByteArray.toList_eq]
                      cases hl : c.data.toList with
                      | nil => rw [← text_size, hl] at h0; simp at h0
                      | cons => rfl
                    have hv : (c[0].toNat : Int) = v := by
                      cases hl : bothS s0.data.toList s1.data.toList with
                      | nil => exact absurd hl q3
                      | cons x r =>
                        have h1 := both_head hl
                        rw [HBE.out.1] at h1
                        have h2 : c.data.toList = x :: r := by rw [HC.out, hl]
                        have h3 : c.data.toList[0]'(by simpa using h0) = x := by simp only [h2]; rfl
                        have h4 : c[0] = x := h3
                        rw [h4, h1]
                    have hw : wrap64 (c[0].toNat : Int) = v := by rw [← hv]; have := UInt8.toNat_lt c[0]; unfold wrap64; omega
                    have t0 : ((c[0].toNat : Int) == v) = true := by simp [hv]
                    have t1 : (wrap64 (c[0].toNat : Int) == v) = true := by simp [hw]
                    have t2 : (v != v) = false := by simp
                    have t3 : (c.toList != c.toList) = false := by simp
                    have t4 := eqS s0
                    have hcb := UInt8.toNat_lt c[0]
                    clear hv hw hcz q3
                    go_wp2_with fail
                    refine (make_any a k cap xs _ HXL0.out HRX0.out HXW0.out s0 0 HS0 HE0).mono ?_
                    rintro e v1 ⟨rfl, hb⟩
                    have J1 := Lib.hid (hb)
                    clear hb
                    go_wp2_with fail
                    refine (make_any b m cb ys _ HXL1.out (HRX1.out.below J1.out) HXW1.out s1 0 HS1 HE1).mono ?_
                    rintro e v2 ⟨rfl, hb⟩
                    have J2 := Lib.hid (J1.out.trans (hb.mono J1.out.size))
                    clear hb J1
                    go_wp2_with fail
                    refine (both_any s0 s1 _ HZ0.out HZ1.out c HBT).mono ?_
                    rintro e v3 ⟨rfl, hb⟩
                    have J3 := Lib.hid (J2.out.trans (hb.mono J2.out.size))
                    clear hb J2
                    go_wp2_with fail
                    refine (best_any s0 s1 _ HZ0.out HZ1.out v 0 HBE).mono ?_
                    rintro e v4 ⟨rfl, hb⟩
                    have J4 := Lib.hid (J3.out.trans (hb.mono J3.out.size))
                    clear hb J3
                    go_wp2_with fail
                    refine (best_any s1 s0 _ HZ1.out HZ0.out v 0 HBE2).mono ?_
                    rintro e v5 ⟨rfl, hb⟩
                    have J5 := Lib.hid (J4.out.trans (hb.mono J4.out.size))
                    clear hb J4
                    go_wp2_with fail
                    refine (both_any s1 s0 _ HZ1.out HZ0.out c HBT2).mono ?_
                    rintro e v6 ⟨rfl, hb⟩
                    have J6 := Lib.hid (J5.out.trans (hb.mono J5.out.size))
                    clear hb J5
                    go_wp2_with fail
                    refine (right_any c _ HCZ.out true HCR).mono ?_
                    rintro e v7 ⟨rfl, hb⟩
                    have J7 := Lib.hid (J6.out.trans (hb.mono J6.out.size))
                    clear hb J6
                    go_wp2_with fail
                    refine (both_any s0 s0 _ HZ0.out HZ0.out s0 HBS).mono ?_
                    rintro e v8 ⟨rfl, hb⟩
                    have J8 := Lib.hid (J7.out.trans (hb.mono J7.out.size))
                    clear hb J7
                    go_wp2_with fail
                    refine (fixed_any _).mono ?_
                    rintro e v9 ⟨rfl, hb⟩
                    have J9 := Lib.hid (J8.out.trans (hb.mono J8.out.size))
                    clear hb J8
                    go_wp2_with fail
                    go_ret
                    exact ⟨rfl, HB.out.trans (J9.out.mono HB.out.size)⟩

theorem walk (a0 : Option Addr) (len0 cap0 : Nat) (z0 : List Int) (a1 : Option Addr) (len1 cap1 : Nat) (z1 : List Int) (w : World) (w0 : IsRow .u8 w a0 len0 cap0 z0) (w1 : IsRow .u8 w a1 len1 cap1 z1) :
    Calls Try.prog 5 #[.slice a0 len0 cap0, .slice a1 len1 cap1] w fun e w' => e = .returned (.bool true) ∧ Below w.heap.size w w' := by
  obtain ⟨ks0, hks0, hr0, hwf0, _⟩ := w0.row
  obtain ⟨ks1, hks1, hr1, hwf1, _⟩ := w1.row
  exact walkN a0 len0 cap0 ks0 a1 len1 cap1 ks1 w hks0 hr0 hwf0 (by have := hr0.len; omega) hks1 hr1 hwf1 (by have := hr1.len; omega)

set_option maxRecDepth 100000 in
theorem lifted (os : Os) (started : os.Started) (H : Type) (enc : TypeId × Value → H) :
    ReturnsInHanded {} Try.checked os 5 .any (Rows.offerBothSpec.pre6 enc Try.prog Try.f5 Rows.offerBothRow.domain false) (Rows.offerBothSpec.post enc Try.prog Try.f5 false true false false) := by
  refine returnsInHanded_of_change (C := Try.checked) own started (by kernel_rfl) Try.func5
    (ChangeSpec.witness6 (enc := enc) (C := Try.checked) false ⟨#[], #[.slice none 0 0, .slice none 0 0], []⟩ 8 (by kernel_rfl) (by kernel_rfl) (by kernel_rfl) (by kernel_rfl)) ?_
  intro W base args ds gs before hval0 hW hcnd _
  have hval : ∀ (j : Nat) t v, Try.f5.params[j]? = some t → args[j]? = some v → Value.okWide Try.prog W .any base t v := hval0
  have hW' := hW
  obtain ⟨p, q, hA0, hV, rfl, hfz, hnd⟩ := hW
  have hA : DataW.TrodAll enc Try.prog W 0 (fun _ => true) true Try.f5.params.toList args.toList ds p := hA0
  rw [Try.params5] at hA hval
  obtain ⟨v0, vs0, d0, ds0, p0, q0, hargs, rfl, rfl, h0, r0⟩ := trodAll_cons hA
  obtain ⟨v1, vs1, d1, ds1, p1, q1, rfl, rfl, rfl, h1, r1⟩ := trodAll_cons r0
  obtain ⟨rfl, rfl, rfl⟩ := trodAll_nil r1
  obtain rfl : args = #[v0, v1] := by cases args; simp_all
  obtain ⟨rfl, rfl⟩ := trodVars_none hV
  obtain ⟨a0, len0, cap0, rfl⟩ := okWide_slice Try.underlying32 (hval 0 32 v0 rfl rfl)
  have k0 := h0
  have lt0 : ∀ x ∈ p0, x.block < W.heap.size := by obtain ⟨m, hm⟩ := k0; exact DataW.trod_lt m _ _ _ hm
  obtain ⟨z0, w0⟩ : ∃ zs, IsRow .u8 W a0 len0 cap0 zs := by
    obtain ⟨fuel, hf⟩ := h0
    rcases open_ints Try.underlying32 Try.underlying5 (by kernel_rfl) hf with ⟨hcs, _⟩ | ⟨x, l, c, zs, hcs, _, hl, hm, hz, _, hcell, hwz⟩
    · simp [Value.cells] at hcs
      obtain ⟨rfl, rfl, rfl⟩ := hcs
      exact ⟨[], .inl ⟨rfl, rfl, rfl, rfl⟩⟩
    · simp [Value.cells] at hcs
      obtain ⟨rfl, rfl, rfl⟩ := hcs
      exact ⟨zs, .inr ⟨_, rfl, hl, hm, by simpa using hz, hcell, hwz⟩⟩
  obtain ⟨a1, len1, cap1, rfl⟩ := okWide_slice Try.underlying32 (hval 1 32 v1 rfl rfl)
  have k1 := h1
  have lt1 : ∀ x ∈ p1, x.block < W.heap.size := by obtain ⟨m, hm⟩ := k1; exact DataW.trod_lt m _ _ _ hm
  obtain ⟨z1, w1⟩ : ∃ zs, IsRow .u8 W a1 len1 cap1 zs := by
    obtain ⟨fuel, hf⟩ := h1
    rcases open_ints Try.underlying32 Try.underlying5 (by kernel_rfl) hf with ⟨hcs, _⟩ | ⟨x, l, c, zs, hcs, _, hl, hm, hz, _, hcell, hwz⟩
    · simp [Value.cells] at hcs
      obtain ⟨rfl, rfl, rfl⟩ := hcs
      exact ⟨[], .inl ⟨rfl, rfl, rfl, rfl⟩⟩
    · simp [Value.cells] at hcs
      obtain ⟨rfl, rfl, rfl⟩ := hcs
      exact ⟨zs, .inr ⟨_, rfl, hl, hm, by simpa using hz, hcell, hwz⟩⟩
  clear hA0 hval0
  refine (walk a0 len0 cap0 z0 a1 len1 cap1 z1 W w0 w1).mono fun e W' ⟨he, bel⟩ => ?_
  subst he
  exact ⟨_, rfl, _, _, _, [], _, [], hW', trodAll_mk1 (shut_bool Try.underlying4 _), (trodAll_cons_mk (Below.trod laidOut (by kernel_rfl) (of_decide_eq_true (by kernel_rfl)) k0 bel lt0) (trodAll_cons_mk (Below.trod laidOut (by kernel_rfl) (of_decide_eq_true (by kernel_rfl)) k1 bel lt1) trodAll_mk0)), rfl, bel.frame _, fun h => by cases h⟩

theorem over : Rows.offerBothRow.holds Try.pinned (OpenSpec.ofChange Rows.offerBothSpec) :=
  OpenClaim.holds_of_wide 5 Try.f5 rfl rfl rfl rfl rfl rfl rfl ⟨rfl, rfl, rfl, rfl, rfl⟩ rfl rfl rfl rfl rfl (by kernel_rfl) Try.func5 (by kernel_rfl)
    (of_decide_eq_true (by kernel_rfl)) (by unfold Func.isWrapper; first | (rw [if_pos (by decide +kernel)]; kernel_rfl) | (rw [if_neg (by decide +kernel)]; exact ⟨rfl, rfl⟩))
    (fun os started H enc _ => lifted os started H enc)

theorem proved : Rows.OfferBothSaid := over
#print axioms proved
end Go.Proofs.Ytahlekcnleedhaa.offerBoth
