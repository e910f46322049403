/- The law OfferMakes returns true for every row of bytes, and its argument reads as it did. No conditions. -/
import Derived.Test.YtahlekcnleedhaaRows
import Derived.Test.YtahlekcnleedhaaOffN
import Derived.WalkKit
import Derived.ProofKit
import Derived.OpenShut
import Derived.ShutString
import Derived.ChangeOld
import Derived.Below
namespace Go.Proofs.Ytahlekcnleedhaa.offerMakes
open Go.ChangeShapes Go.WideShapes Go.ChangeAt Go.RowKit
open Go.ChangeMaps (open_string shut_string)
open Go.Proofs.Ytahlekcnleedhaa
set_option linter.unusedVariables false
set_option linter.unusedSimpArgs false
set_option maxRecDepth 20000

theorem own : ownKnob Try.prog.godebug = none := by kernel_rfl
theorem laidOut : laidOutB Try.prog = true := by kernel_rfl


theorem u8_wf {x : Int} (h : (Lit.int .u8 x).wf = true) : (Lit.int .i64 x).wf = true := by
  have := bounds_u8 h
  have e1 : IntKind.i64.min = -9223372036854775808 := by decide
  have e2 : IntKind.i64.max = 9223372036854775807 := by decide
  simp only [Lit.wf, e1, e2, Bool.and_eq_true, decide_eq_true_eq]
  omega

set_option maxHeartbeats 8000000 in
set_option maxRecDepth 100000 in
theorem walkN (a0 : Option Addr) (len0 cap0 : Nat) (k0s : List Int) (w : World) (hl0 : k0s.length = len0) (hr0 : RowAt .u8 w a0 cap0 k0s) (hw0 : ∀ x, x ∈ k0s → (Lit.int .u8 x).wf = true) (hm0 : len0 ≤ 9223372036854775807) :
    Calls Try.prog 4 #[.slice a0 len0 cap0] w fun e w' => e = .returned (.bool true) ∧ Below w.heap.size w w' := by
  have HL0 := Lib.hid hl0
  have HR0 := Lib.hid hr0
  have HW0 := Lib.hid hw0
  clear hl0 hr0 hw0
  have HST : Hid (RowsOk w.heap.size [(.slice (some ⟨w.heap.size, 0, none⟩) 0 0, k0s.take 0), (.slice (some ⟨w.heap.size + 1, 0, none⟩) 0 0, (k0s.take 0).reverse)] ((w.alloc (.cells #[] 3)).alloc (.cells #[] 3))) := Lib.hid (by
    have h1 := (RowsOk.nil w.heap.size w).lit (Nat.le_refl _) [] 0 rfl (by omega) #[] rfl
    have h2 := h1.lit (by simp) [] 0 rfl (by omega) #[] rfl
    have h3 := h2.swap
    simpa using h3)
  go_enter Try.func4, Try.ntmps4
  go_wp2_with fail
  go_loopw [3, 4, 5] (fun s r j wr => ∃ (k : Nat) (a : Option Addr) (ca g cb : Nat), k ≤ 12 ∧ k ≤ len0 ∧ j = .int .i64 k ∧ s = .slice a k ca ∧ r = .slice (some ⟨g, 0, none⟩) k cb ∧ Hid (RowsOk w.heap.size [(.slice a k ca, k0s.take k), (.slice (some ⟨g, 0, none⟩) k cb, (k0s.take k).reverse)] wr) ∧ Hid (Below w.heap.size w wr)) (fun _ _ j _ => 12 - (intOf j).toNat)
  case atStart => exact ⟨0, some ⟨w.heap.size, 0, none⟩, 0, w.heap.size + 1, 0, Nat.zero_le _, Nat.zero_le _, rfl, rfl, rfl, HST, Lib.hid ((below_alloc w _).trans ((Below.refl _ _).alloc (by simp) _))⟩
  case round =>
    obtain ⟨k, a, ca, g, cb, hk1, hk2, rfl, rfl, rfl, HRW, HB⟩ := hrel
    by_cases hlt : k < len0 ∧ k < 12
    · obtain ⟨h1, h2⟩ := hlt
      obtain ⟨q1, q2, bk, off, q3⟩ := HR0.out
      obtain ⟨hqa, hc⟩ := q3 k (by rw [HL0.out]; exact h1)
      subst hqa
      have hzw := bounds_u8 (HW0.out _ (getD_mem (ks := k0s) (k := k) (by rw [HL0.out]; exact h1)))
      obtain ⟨z0, z1⟩ := hzw
      have htk := take_getD (ks := k0s) (k := k) (by rw [HL0.out]; exact h1)
      generalize k0s.getD k 0 = z at z0 z1 htk hc
      have hc2 : wr.cell? ⟨bk, off + k, none⟩ = some (.int .u8 z) := (HB.out.cell (block_lt_of_cell hc)).trans hc
      have HC : Hid (w.cell? ⟨bk, off + k, none⟩ = some (.int .u8 z)) := Lib.hid hc
      clear hc q1 q2 q3
      have HTK := Lib.hid htk
      clear htk
      have HLN : Hid ((k0s.take k).length = k) := Lib.hid (by rw [List.length_take, HL0.out]; omega)
      have HLN2 : Hid ((k0s.take k).reverse.length = k) := Lib.hid (by rw [List.length_reverse, HLN.out])
      have e1 : decide (k < len0) = true := by simpa using h1
      have e2 : decide (k < 12) = true := by simpa using h2
      have e3 : decide ((k : Int) < 12) = true := decide_eq_true (by omega)
      have h3 : (k : Int) < (len0 : Int) := by omega
      have HI := Lib.hid (And.intro h1 h2)
      clear h1 h2 hk1 hk2
      go_wp2_with (first
        | (at_builtin; refine wpList_push rfl (.tmp 27) (.tmp 33) rfl w.heap.size [] [(.slice (some ⟨g, 0, none⟩) k cb, (k0s.take k).reverse)] _ (k0s.take k) z wr HRW.out rfl rfl k HLN.out (by have := HI.out; omega) HB.out.size ?_; intro g3 cap3 w6 hR6 hB6; have HR6 := Lib.hid hR6; have HB6 := Lib.hid (HB.out.trans hB6); have hc6 : w6.cell? ⟨bk, off + k, none⟩ = some (.int .u8 z) := (HB6.out.cell (block_lt_of_cell HC.out)).trans HC.out; clear hR6 hB6)
        | (at_builtin; refine wpList_unshift rfl (.tmp 40) (.tmp 41) rfl w.heap.size [(.slice (some ⟨g3, 0, none⟩) (k + 1) cap3, k0s.take k ++ [z])] [] g k cb (k0s.take k).reverse z w6 HR6.out rfl rfl HLN2.out (by have := HI.out; omega) HB6.out.size ?_; intro g4 cap4 w7 hR7 hB7; have HR7 := Lib.hid hR7; have HB7 := Lib.hid (HB6.out.trans hB7); clear hR7 hB7))
      go_roundw
      case rel => exact ⟨k + 1, some ⟨g3, 0, none⟩, cap3, g4, cap4, by have := HI.out; omega, by have := HI.out; omega, by go_num, rfl, rfl, Lib.hid (by rw [HTK.out, List.reverse_append]; exact HR7.out), HB7⟩
      case measure => have := HI.out; simp [intOf]; omega
    · have e12 : decide (k < len0) = false ∨ (decide (k < len0) = true ∧ decide ((k : Int) < 12) = false) := by
        simp only [decide_eq_false_iff_not, decide_eq_true_eq]
        omega
      have HK8 := Lib.hid hk1
      have HXLk : Hid ((k0s.take k).length = k) := Lib.hid (by rw [List.length_take, HL0.out]; omega)
      have HXW : Hid (∀ x, x ∈ k0s.take k → (Lit.int .i64 x).wf = true) := Lib.hid (fun x hx => u8_wf (HW0.out x (List.mem_of_mem_take hx)))
      obtain ⟨xs, hxs⟩ : ∃ xs, k0s.take k = xs := ⟨_, rfl⟩
      rw [hxs] at HRW HXLk HXW
      obtain ⟨n, rfl⟩ : ∃ n : Nat, n = k := ⟨_, rfl⟩
      have HRA : Hid (RowAt .i64 wr a ca xs) := Lib.hid (HRW.out.rowAt (n := n) (by simp)).2
      have HRB : Hid (RowAt .i64 wr (some ⟨g, 0, none⟩) cb xs.reverse) := Lib.hid (HRW.out.rowAt (n := n) (by simp)).2
      have HXL : Hid (n = xs.length) := Lib.hid HXLk.out.symm
      have HYL : Hid (n = xs.reverse.length) := Lib.hid (by rw [List.length_reverse]; exact HXL.out)
      have HYW : Hid (∀ x, x ∈ xs.reverse → (Lit.int .i64 x).wf = true) := Lib.hid (fun x hx => HXW.out x (by simpa using hx))
      have hrev := make_rev xs
      clear hxs HRW HXLk hlt hk1 hk2
      rcases made_cases xs with ⟨m1, m2⟩ | ⟨m1, m2, m3⟩
      · have HS : Hid ((⟨#[]⟩ : ByteArray).data.toList = makeS xs) := Lib.hid m2.symm
        have HE := Lib.hid m1
        have HS2 : Hid ((⟨#[]⟩ : ByteArray).data.toList = makeS xs.reverse) := Lib.hid (by rw [hrev.1, m2])
        have HE2 : Hid (makeE xs.reverse = 1) := Lib.hid (by rw [hrev.2, m1])
        have HRN : Hid (rightB (⟨#[]⟩ : ByteArray).data.toList = false) := Lib.hid rfl
        clear m1 m2 hrev
        rcases e12 with e1 | ⟨e1, e2⟩
        all_goals
          go_wp2_with fail
          refine (make_any a n ca xs _ HXL.out HRA.out HXW.out ⟨#[]⟩ 1 HS HE).mono ?_
          rintro e v1 ⟨rfl, hb⟩
          have J1 := Lib.hid (hb)
          clear hb
          go_wp2_with fail
          refine (make_any (some ⟨g, 0, none⟩) n cb xs.reverse _ HYL.out (HRB.out.below J1.out) HYW.out ⟨#[]⟩ 1 HS2 HE2).mono ?_
          rintro e v2 ⟨rfl, hb⟩
          have J2 := Lib.hid (J1.out.trans (hb.mono J1.out.size))
          clear hb J1
          go_wp2_with fail
          refine (right_any ⟨#[]⟩ _ (by decide) false HRN).mono ?_
          rintro e v3 ⟨rfl, hb⟩
          have J3 := Lib.hid (J2.out.trans (hb.mono J2.out.size))
          clear hb J2
          go_wp2_with fail
          refine (fixed_any _).mono ?_
          rintro e v4 ⟨rfl, hb⟩
          have J4 := Lib.hid (J3.out.trans (hb.mono J3.out.size))
          clear hb J3
          go_wp2_with fail
          go_ret
          exact ⟨rfl, HB.out.trans (J4.out.mono HB.out.size)⟩
      · obtain ⟨s, hs⟩ := text_of (makeS xs)
        have HS := Lib.hid hs
        have HE := Lib.hid m1
        have HS2 : Hid (s.data.toList = makeS xs.reverse) := Lib.hid (by rw [hrev.1, hs])
        have HE2 : Hid (makeE xs.reverse = 0) := Lib.hid (by rw [hrev.2, m1])
        have HSR : Hid (rightB s.data.toList = true) := Lib.hid (by rw [hs]; exact m2)
        have hsz := right_iff.1 HSR.out
        rw [text_size] at hsz
        have HSZ : Hid (s.size ≤ maxLen) := Lib.hid (by unfold maxLen; omega)
        have hs8 : s.size ≤ 8 := hsz.2.1
        have HMM : Hid (∀ m : Nat, m < 256 → hasI s.data.toList (m : Int) = xs.contains (m : Int)) := Lib.hid (by rw [hs]; exact m3)
        have t1 : (s.toList != s.toList) = false := by simp
        have hn12 : n ≤ 12 := HK8.out
        clear m1 m2 m3 hrev hs hsz
        rcases e12 with e1 | ⟨e1, e2⟩
        all_goals
          go_wp2_with fail
          refine (make_any a n ca xs _ HXL.out HRA.out HXW.out s 0 HS HE).mono ?_
          rintro e v1 ⟨rfl, hb⟩
          have J1 := Lib.hid (hb)
          clear hb
          go_wp2_with fail
          refine (make_any (some ⟨g, 0, none⟩) n cb xs.reverse _ HYL.out (HRB.out.below J1.out) HYW.out s 0 HS2 HE2).mono ?_
          rintro e v2 ⟨rfl, hb⟩
          have J2 := Lib.hid (J1.out.trans (hb.mono J1.out.size))
          clear hb J1
          have HRX := Lib.hid (HRA.out.below J2.out)
          go_wp2_with fail
          go_loop [10] (fun i => ∃ m : Nat, m ≤ 256 ∧ i = .int .i64 m) (fun i => 256 - (intOf i).toNat)
          case atStart => exact ⟨0, Nat.zero_le _, rfl⟩
          case round =>
            obtain ⟨m, hm, rfl⟩ := hrel
            by_cases hlt : m < 256
            · have hlt' : (m : Int) < 256 := by omega
              obtain ⟨c, hcm⟩ : ∃ c, xs.contains (m : Int) = c := ⟨_, rfl⟩
              have HCM := Lib.hid hcm
              have HHM : Hid (hasI s.data.toList (m : Int) = c) := Lib.hid (by rw [HMM.out m hlt, hcm])
              have HLT := Lib.hid hlt
              clear hcm hlt
              go_wp2
              go_loop [11, 13] (fun r i => ∃ (k : Nat) (b : Bool), k ≤ s.size ∧ i = .int .i64 k ∧ r = .bool b ∧ Hid (hasI (s.data.toList.take k) (m : Int) = b)) (fun _ i => s.size - (intOf i).toNat)
              case atStart => exact ⟨0, false, Nat.zero_le _, rfl, rfl, Lib.hid rfl⟩
              case round =>
                obtain ⟨k, b, hk, rfl, rfl, HS⟩ := hrel
                by_cases hlt : k < s.size
                · have hlt' : (k : Int) < (s.size : Int) := by omega
                  have hcb := UInt8.toNat_lt s[k]
                  have HT := Lib.hid (hasI_take s k hlt (m : Int))
                  cases b
                  · by_cases hq : (s[k].toNat : Int) = (m : Int)
                    · have hq' : (s[k].toNat == m) = true := by rw [beq_iff_eq]; omega
                      have hq2 : ((s[k].toNat : Int) == (m : Int)) = true := by simpa using hq
                      have HN : Hid (hasI (s.data.toList.take (k + 1)) (m : Int) = true) := Lib.hid (by rw [HT.out, hq]; simp)
                      clear hq
                      go_wp2
                      go_round
                      case rel => exact ⟨k + 1, true, by omega, by go_num, rfl, HN⟩
                      case measure => simp [intOf]; omega
                    · have hq' : (s[k].toNat == m) = false := beq_eq_false_iff_ne.2 (by omega)
                      have hq2 : ((s[k].toNat : Int) == (m : Int)) = false := by simpa using hq
                      have HN : Hid (hasI (s.data.toList.take (k + 1)) (m : Int) = false) := Lib.hid (by rw [HT.out, HS.out]; simpa using hq)
                      clear hq
                      go_wp2
                      go_round
                      case rel => exact ⟨k + 1, false, by omega, by go_num, rfl, HN⟩
                      case measure => simp [intOf]; omega
                  · have HN : Hid (hasI (s.data.toList.take (k + 1)) (m : Int) = true) := Lib.hid (by rw [HT.out, HS.out]; rfl)
                    go_wp2
                    go_round
                    case rel => exact ⟨k + 1, true, by omega, by go_num, rfl, HN⟩
                    case measure => simp [intOf]; omega
                · obtain rfl : k = s.size := by omega
                  have e : s.data.toList.take s.size = s.data.toList := List.take_of_length_le (by simp)
                  have hbv := HS.out
                  rw [e, HHM.out] at hbv
                  subst hbv
                  clear e hlt HS
                  go_wp2_with fail
                  go_loop [12, 14] (fun r i => ∃ (j : Nat) (b : Bool), j ≤ n ∧ i = .int .i64 j ∧ r = .bool b ∧ Hid ((xs.take j).contains (m : Int) = b)) (fun _ i => n - (intOf i).toNat)
                  case atStart => exact ⟨0, false, Nat.zero_le _, rfl, rfl, Lib.hid rfl⟩
                  case round =>
                    obtain ⟨j, b, hj, rfl, rfl, HC⟩ := hrel
                    by_cases hlt : j < n
                    · have hlt' : (j : Int) < (n : Int) := by omega
                      obtain ⟨q1, q2, bk, off, q3⟩ := HRX.out
                      obtain ⟨hqa, hc⟩ := q3 j (by rw [← HXL.out]; exact hlt)
                      subst hqa
                      have hct := contains_take (zs := xs) (k := j) (by rw [← HXL.out]; exact hlt) (m : Int)
                      generalize xs.getD j 0 = z at hc hct
                      have HCT := Lib.hid hct
                      clear q1 q2 q3 hct
                      cases b
                      · by_cases hq : z = (m : Int)
                        · have hq' : (z == (m : Int)) = true := by simpa using hq
                          have HN : Hid ((xs.take (j + 1)).contains (m : Int) = true) := Lib.hid (by rw [HCT.out, hq]; simp)
                          clear hq
                          go_wp2
                          go_round
                          case rel => exact ⟨j + 1, true, by omega, by go_num, rfl, HN⟩
                          case measure => simp [intOf]; omega
                        · have hq' : (z == (m : Int)) = false := by simpa using hq
                          have HN : Hid ((xs.take (j + 1)).contains (m : Int) = false) := Lib.hid (by rw [HCT.out, HC.out]; simpa using hq)
                          clear hq
                          go_wp2
                          go_round
                          case rel => exact ⟨j + 1, false, by omega, by go_num, rfl, HN⟩
                          case measure => simp [intOf]; omega
                      · have HN : Hid ((xs.take (j + 1)).contains (m : Int) = true) := Lib.hid (by rw [HCT.out, HC.out]; rfl)
                        go_wp2
                        go_round
                        case rel => exact ⟨j + 1, true, by omega, by go_num, rfl, HN⟩
                        case measure => simp [intOf]; omega
                    · obtain rfl : j = n := by omega
                      have e : xs.take j = xs := List.take_of_length_le (by rw [← HXL.out]; exact Nat.le_refl _)
                      have hbv := HC.out
                      rw [e, HCM.out] at hbv
                      subst hbv
                      clear e hlt HC
                      have t9 : (c != c) = false := by simp
                      go_wp2
                      go_round
                      case rel => exact ⟨m + 1, by omega, by go_num⟩
                      case measure => simp [intOf]; omega
            · obtain rfl : m = 256 := by omega
              clear hlt hm
              go_wp2_with fail
              refine (right_any s _ HSZ.out true HSR).mono ?_
              rintro e v3 ⟨rfl, hb⟩
              have J3 := Lib.hid (J2.out.trans (hb.mono J2.out.size))
              clear hb J2
              go_wp2_with fail
              refine (fixed_any _).mono ?_
              rintro e v4 ⟨rfl, hb⟩
              have J4 := Lib.hid (J3.out.trans (hb.mono J3.out.size))
              clear hb J3
              go_wp2_with fail
              go_ret
              exact ⟨rfl, HB.out.trans (J4.out.mono HB.out.size)⟩

theorem walk (a0 : Option Addr) (len0 cap0 : Nat) (z0 : List Int) (w : World) (w0 : IsRow .u8 w a0 len0 cap0 z0) :
    Calls Try.prog 4 #[.slice a0 len0 cap0] w fun e w' => e = .returned (.bool true) ∧ Below w.heap.size w w' := by
  obtain ⟨ks0, hks0, hr0, hwf0, _⟩ := w0.row
  exact walkN a0 len0 cap0 ks0 w hks0 hr0 hwf0 (by have := hr0.len; omega)

set_option maxRecDepth 100000 in
theorem lifted (os : Os) (started : os.Started) (H : Type) (enc : TypeId × Value → H) :
    ReturnsInHanded {} Try.checked os 4 .any (Rows.offerMakesSpec.pre6 enc Try.prog Try.f4 Rows.offerMakesRow.domain false) (Rows.offerMakesSpec.post enc Try.prog Try.f4 false true false false) := by
  refine returnsInHanded_of_change (C := Try.checked) own started (by kernel_rfl) Try.func4
    (ChangeSpec.witness6 (enc := enc) (C := Try.checked) false ⟨#[], #[.slice none 0 0], []⟩ 8 (by kernel_rfl) (by kernel_rfl) (by kernel_rfl) (by kernel_rfl)) ?_
  intro W base args ds gs before hval0 hW hcnd _
  have hval : ∀ (j : Nat) t v, Try.f4.params[j]? = some t → args[j]? = some v → Value.okWide Try.prog W .any base t v := hval0
  have hW' := hW
  obtain ⟨p, q, hA0, hV, rfl, hfz, hnd⟩ := hW
  have hA : DataW.TrodAll enc Try.prog W 0 (fun _ => true) true Try.f4.params.toList args.toList ds p := hA0
  rw [Try.params4] at hA hval
  obtain ⟨v0, vs0, d0, ds0, p0, q0, hargs, rfl, rfl, h0, r0⟩ := trodAll_cons hA
  obtain ⟨rfl, rfl, rfl⟩ := trodAll_nil r0
  obtain rfl : args = #[v0] := by cases args; simp_all
  obtain ⟨rfl, rfl⟩ := trodVars_none hV
  obtain ⟨a0, len0, cap0, rfl⟩ := okWide_slice Try.underlying32 (hval 0 32 v0 rfl rfl)
  have k0 := h0
  have lt0 : ∀ x ∈ p0, x.block < W.heap.size := by obtain ⟨m, hm⟩ := k0; exact DataW.trod_lt m _ _ _ hm
  obtain ⟨z0, w0⟩ : ∃ zs, IsRow .u8 W a0 len0 cap0 zs := by
    obtain ⟨fuel, hf⟩ := h0
    rcases open_ints Try.underlying32 Try.underlying5 (by kernel_rfl) hf with ⟨hcs, _⟩ | ⟨x, l, c, zs, hcs, _, hl, hm, hz, _, hcell, hwz⟩
    · simp [Value.cells] at hcs
      obtain ⟨rfl, rfl, rfl⟩ := hcs
      exact ⟨[], .inl ⟨rfl, rfl, rfl, rfl⟩⟩
    · simp [Value.cells] at hcs
      obtain ⟨rfl, rfl, rfl⟩ := hcs
      exact ⟨zs, .inr ⟨_, rfl, hl, hm, by simpa using hz, hcell, hwz⟩⟩
  clear hA0 hval0
  refine (walk a0 len0 cap0 z0 W w0).mono fun e W' ⟨he, bel⟩ => ?_
  subst he
  exact ⟨_, rfl, _, _, _, [], _, [], hW', trodAll_mk1 (shut_bool Try.underlying4 _), (trodAll_cons_mk (Below.trod laidOut (by kernel_rfl) (of_decide_eq_true (by kernel_rfl)) k0 bel lt0) trodAll_mk0), rfl, bel.frame _, fun h => by cases h⟩

theorem over : Rows.offerMakesRow.holds Try.pinned (OpenSpec.ofChange Rows.offerMakesSpec) :=
  OpenClaim.holds_of_wide 4 Try.f4 rfl rfl rfl rfl rfl rfl rfl ⟨rfl, rfl, rfl, rfl, rfl⟩ rfl rfl rfl rfl rfl (by kernel_rfl) Try.func4 (by kernel_rfl)
    (of_decide_eq_true (by kernel_rfl)) (by unfold Func.isWrapper; first | (rw [if_pos (by decide +kernel)]; kernel_rfl) | (rw [if_neg (by decide +kernel)]; exact ⟨rfl, rfl⟩))
    (fun os started H enc _ => lifted os started H enc)

theorem proved : Rows.OfferMakesSaid := over
#print axioms proved
end Go.Proofs.Ytahlekcnleedhaa.offerMakes
