/- What AlarmMoves's body does. -/
import Derived.Test.YtcnfchjiiglijaaAlarmX
import Derived.Test.YtcnfchjiiglijaaHeapS
import Derived.WalkKit
namespace Go.Proofs.Ytcnfchjiiglijaa
open Go.RowKit
set_option linter.unusedVariables false
set_option linter.unusedSimpArgs false
set_option maxRecDepth 20000

theorem wrap_u64 {x : Int} (h : 0 ≤ x) (k : x ≤ 18446744073709551615) : IntKind.u64.wrap x = x := by simp [IntKind.wrap, IntKind.signed, IntKind.bits]; omega
theorem u64_range (x : Int) : U64 (IntKind.u64.wrap x) := by unfold U64; simp [IntKind.wrap, IntKind.signed, IntKind.bits]; omega
theorem next_ne {x : Int} (h : 0 ≤ x) (k : x ≤ 18446744073709551615) : IntKind.u64.wrap (x + 1) ≠ x := by simp [IntKind.wrap, IntKind.signed, IntKind.bits]; omega
theorem moves_math {id at_ to J N : Int} (hJ : J ≠ id) (h1 : at_ < N) (h2 : to < N) (h3 : N ≤ 1099511627776) :
    putD 2 id at_ [] = ([⟨id, at_⟩], 0) ∧ putD 2 J N [⟨id, at_⟩] = ([⟨id, at_⟩, ⟨J, N⟩], 0) ∧ putD 2 id to [⟨id, at_⟩, ⟨J, N⟩] = ([⟨id, to⟩, ⟨J, N⟩], 0) ∧
    firstD [⟨id, to⟩, ⟨J, N⟩] = (to, true) ∧
    (0 < to → restD (to - 1) [⟨id, to⟩, ⟨J, N⟩] = [⟨id, to⟩, ⟨J, N⟩]) ∧ (0 < to → dueD (to - 1) [⟨id, to⟩, ⟨J, N⟩] = []) ∧
    restD to [⟨id, to⟩, ⟨J, N⟩] = [⟨J, N⟩] ∧ dueD to [⟨id, to⟩, ⟨J, N⟩] = [id] ∧
    dropD id [⟨J, N⟩] = [⟨J, N⟩] ∧ hasD id [⟨J, N⟩] = false ∧
    restD 1099511627776 [⟨J, N⟩] = [] ∧ dueD 1099511627776 [⟨J, N⟩] = [J] := by
  have b1 : (J == id) = false := by simpa using hJ
  have b2 : (id == J) = false := by simpa using fun q : id = J => hJ q.symm
  have c1 : ltO ⟨J, N⟩ ⟨id, at_⟩ = false := leP_not (Or.inl h1)
  have c2 : ltO ⟨id, to⟩ ⟨J, N⟩ = true := ltO_true.2 (Or.inl h2)
  have n1 : ¬ N ≤ to := by omega
  have f1 : foundD id [⟨J, N⟩] = 1 := by simp [foundD, List.findIdx_cons, b1]
  have f2 : foundD J [⟨id, at_⟩] = 1 := by simp [foundD, List.findIdx_cons, b2]
  have f3 : foundD id [⟨id, at_⟩, ⟨J, N⟩] = 0 := by simp [foundD, List.findIdx_cons]
  refine ⟨?_, ?_, ?_, rfl, fun _ => ?_, fun _ => ?_, ?_, ?_, ?_, ?_, ?_, ?_⟩
  · rfl
  · simp [putD, hasD, f2, dropD, insD_eq, insS, c1]; decide
  · simp [putD, hasD, f3, dropD, insD_eq, insS, c2]
  · have q : ¬ to ≤ to - 1 := by omega
    simp [restD, List.dropWhile, q]
  · have q : ¬ to ≤ to - 1 := by omega
    simp [dueD, List.takeWhile, q]
  · simp [restD, List.dropWhile, n1]
  · simp [dueD, List.takeWhile, n1]
  · simp [dropD, f1]
  · simp [hasD, f1]
  · simp [restD, List.dropWhile, h3]
  · simp [dueD, List.takeWhile, h3]
set_option maxHeartbeats 4000000 in
set_option maxRecDepth 100000 in
theorem moves_walk (id at_ to : Int) (w : World) (hid : 0 ≤ id ∧ id ≤ 18446744073709551615) (hat : 0 ≤ at_ ∧ at_ ≤ 4294967295) (hto : 0 ≤ to ∧ to ≤ 4294967295) :
    Calls Try.prog 8 #[.int .u64 id, .int .u32 at_, .int .u32 to] w fun e w' => e = .returned (.bool true) ∧ Below w.heap.size w w' := by
  have HI := Lib.hid hid
  have HT := Lib.hid hat
  have HO := Lib.hid hto
  have ea : IntKind.u64.wrap at_ = at_ := wrap_u64 (by omega) (by omega)
  have et : IntKind.u64.wrap to = to := wrap_u64 (by omega) (by omega)
  have es : IntKind.u64.wrap (at_ + to) = at_ + to := wrap_u64 (by omega) (by omega)
  obtain ⟨N, hN⟩ : ∃ N, N = at_ + to + 1 := ⟨_, rfl⟩
  have en : IntKind.u64.wrap (at_ + to + 1) = N := by rw [hN]; exact wrap_u64 (by omega) (by omega)
  have ed : 0 < to → IntKind.u64.wrap (to - 1) = to - 1 := fun q => wrap_u64 (by omega) (by omega)
  obtain ⟨J, hJ⟩ : ∃ J, IntKind.u64.wrap (id + 1) = J := ⟨_, rfl⟩
  have hJr : U64 J := by rw [← hJ]; exact u64_range _
  have hJn : J ≠ id := by rw [← hJ]; exact next_ne hid.1 hid.2
  obtain ⟨m1, m2, m3, m4, m5, m6, m7, m8, m9, mA, mB, mC⟩ := moves_math hJn (show at_ < N by omega) (show to < N by omega) (show N ≤ 1099511627776 by omega)
  have M1 := Lib.hid m1
  have M2 := Lib.hid m2
  have M3 := Lib.hid m3
  have M4 := Lib.hid m4
  have M5 := Lib.hid m5
  have M6 := Lib.hid m6
  have M7 := Lib.hid m7
  have M8 := Lib.hid m8
  have M9 := Lib.hid m9
  have MA := Lib.hid mA
  have MB := Lib.hid mB
  have MC := Lib.hid mC
  have EA := Lib.hid ea
  have ET := Lib.hid et
  have ES := Lib.hid es
  have EN := Lib.hid en
  have ED := Lib.hid ed
  have EJ := Lib.hid hJ
  have HJ := Lib.hid hJr
  have HN : Hid (0 ≤ N ∧ N ≤ 18446744073709551615) := Lib.hid (by omega)
  clear m1 m2 m3 m4 m5 m6 m7 m8 m9 mA mB mC ea et es en ed hJ hJr hJn hN hid hat hto
  go_enter Try.func8, Try.ntmps8
  go_wp2_with fail
  refine (new_s 2 2 w w (Below.refl _ _) rfl).mono ?_
  rintro e w1 ⟨p, F1, rfl, ha, hfn, hb⟩
  have HA := Lib.hid ha
  clear ha hfn hb
  go_wp2_with fail
  try rw [EA.out]
  refine (put_s HA.out id at_ 0 _ 0 (by simp) ⟨by have := HI.out; omega, by have := HI.out; omega⟩ ⟨by have := HT.out; omega, by have := HT.out; omega⟩ M1.out rfl).mono ?_
  rintro e w2 ⟨F2, rfl, ha, hf, hc⟩
  replace HA := Lib.hid ha
  clear ha hf hc
  go_wp2_with fail
  try rw [EJ.out]
  try rw [EA.out]
  try rw [ET.out]
  try rw [ES.out]
  try rw [EN.out]
  refine (put_s HA.out J N 0 _ 0 (by simp) HJ.out HN.out M2.out rfl).mono ?_
  rintro e w3 ⟨F3, rfl, ha, hf, hc⟩
  replace HA := Lib.hid ha
  clear ha hf hc
  go_wp2_with fail
  try rw [ET.out]
  refine (put_s HA.out id to 0 _ 0 (by simp) ⟨by have := HI.out; omega, by have := HI.out; omega⟩ ⟨by have := HO.out; omega, by have := HO.out; omega⟩ M3.out rfl).mono ?_
  rintro e w4 ⟨F4, rfl, ha, hf, hc⟩
  replace HA := Lib.hid ha
  clear ha hf hc
  go_wp2_with fail
  refine (first_s HA.out to true (by simp) M4.out).mono ?_
  rintro e w5 ⟨rfl, hb⟩
  replace HA := Lib.hid (HA.out.below hb)
  clear hb
  replace HA := Lib.hid (HA.out.below (below_alloc w5 (.cells #[] 29)))
  rcases Int.lt_or_le 0 to with hz | hz
  · have HZ := Lib.hid hz
    have hgt : decide (0 < to) = true := decide_eq_true hz
    clear hz
    go_wp2_with fail
    try rw [ET.out]
    try rw [ED.out HZ.out]
    refine (due_s HA.out (to - 1) _ _ (by simp) ⟨by have := HZ.out; omega, by have := HO.out; omega⟩ (M5.out HZ.out) (M6.out HZ.out)).mono ?_
    rintro e w6 ⟨F6, vDE, rfl, hd, ha, hf, hc⟩
    replace HA := Lib.hid ha
    have DE := Lib.hid hd
    clear ha hd hf hc
    obtain ⟨aE, cE, hvE, hrE⟩ := DE.out.at
    subst hvE
    clear hrE DE
    go_wp2_with fail
    try rw [ET.out]
    refine (due_s HA.out to _ _ (by simp) ⟨by have := HO.out; omega, by have := HO.out; omega⟩ M7.out M8.out).mono ?_
    rintro e w7 ⟨F7, vDN, rfl, hd, ha, hf, hc⟩
    replace HA := Lib.hid ha
    have DN := Lib.hid hd
    clear ha hd hf hc
    go_wp2_with fail
    refine (drop_s HA.out id _ false (by simp) ⟨by have := HI.out; omega, by have := HI.out; omega⟩ M9.out MA.out).mono ?_
    rintro e w8 ⟨F8, rfl, ha, hf, hc⟩
    replace DN := Lib.hid (DN.out.keep hc hf)
    replace HA := Lib.hid ha
    clear ha hf hc
    go_wp2_with fail
    refine (due_s HA.out 1099511627776 _ _ (by simp) ⟨by decide, by decide⟩ MB.out MC.out).mono ?_
    rintro e w9 ⟨F9, vDR, rfl, hd, ha, hf, hc⟩
    replace DN := Lib.hid (DN.out.keep hc hf)
    replace HA := Lib.hid ha
    have DR := Lib.hid hd
    clear ha hd hf hc
    obtain ⟨aN, cN, hvN, hrN⟩ := DN.out.at
    obtain ⟨aR, cR, hvR, hrR⟩ := DR.out.at
    subst hvN hvR
    have RDN := Lib.hid hrN
    have RDR := Lib.hid hrR
    clear hrN hrR DN DR
    have q1 : (to == IntKind.u64.wrap to) = true := by rw [ET.out]; simp
    go_wp2_with fail
    try rw [EJ.out]
    refine (rsame_true _ (some ⟨w9.heap.size, 0, none⟩) 1 _ 1 [id] (w9.alloc (.cells #[.int .u64 id] 29)) rfl (RDN.out.below (below_alloc _ _)) (lit_row .u64 29 w9 [id] (show 1 ≤ maxLen by decide))).mono ?_
    rintro e w10 ⟨rfl, hb0⟩
    have hb : Below w9.heap.size w9 w10 := (below_alloc w9 (.cells #[.int .u64 id] 29)).trans (hb0.mono (by simp))
    clear hb0
    replace RDN := Lib.hid (RDN.out.below hb)
    replace RDR := Lib.hid (RDR.out.below hb)
    replace HA := Lib.hid (HA.out.below hb)
    clear hb
    go_wp2_with fail
    try rw [EJ.out]
    refine (rsame_true _ (some ⟨w10.heap.size, 0, none⟩) 1 _ 1 [J] (w10.alloc (.cells #[.int .u64 J] 29)) rfl (RDR.out.below (below_alloc _ _)) (lit_row .u64 29 w10 [J] (show 1 ≤ maxLen by decide))).mono ?_
    rintro e w11 ⟨rfl, hb0⟩
    have hb : Below w10.heap.size w10 w11 := (below_alloc w10 (.cells #[.int .u64 J] 29)).trans (hb0.mono (by simp))
    clear hb0
    replace RDN := Lib.hid (RDN.out.below hb)
    replace RDR := Lib.hid (RDR.out.below hb)
    replace HA := Lib.hid (HA.out.below hb)
    clear hb
    go_wp2_with fail
    refine (fixed_any _).mono ?_
    rintro e w12 ⟨rfl, hb⟩
    replace HA := Lib.hid (HA.out.below hb)
    clear hb
    go_wp2_with fail
    go_ret
    exact ⟨rfl, HA.out.low⟩
  · have hgt : decide (0 < to) = false := decide_eq_false (by omega)
    clear hz
    go_wp2_with fail
    try rw [ET.out]
    refine (due_s HA.out to _ _ (by simp) ⟨by have := HO.out; omega, by have := HO.out; omega⟩ M7.out M8.out).mono ?_
    rintro e w6 ⟨F6, vDN, rfl, hd, ha, hf, hc⟩
    replace HA := Lib.hid ha
    have DN := Lib.hid hd
    clear ha hd hf hc
    go_wp2_with fail
    refine (drop_s HA.out id _ false (by simp) ⟨by have := HI.out; omega, by have := HI.out; omega⟩ M9.out MA.out).mono ?_
    rintro e w7 ⟨F7, rfl, ha, hf, hc⟩
    replace DN := Lib.hid (DN.out.keep hc hf)
    replace HA := Lib.hid ha
    clear ha hf hc
    go_wp2_with fail
    refine (due_s HA.out 1099511627776 _ _ (by simp) ⟨by decide, by decide⟩ MB.out MC.out).mono ?_
    rintro e w8 ⟨F8, vDR, rfl, hd, ha, hf, hc⟩
    replace DN := Lib.hid (DN.out.keep hc hf)
    replace HA := Lib.hid ha
    have DR := Lib.hid hd
    clear ha hd hf hc
    obtain ⟨aN, cN, hvN, hrN⟩ := DN.out.at
    obtain ⟨aR, cR, hvR, hrR⟩ := DR.out.at
    subst hvN hvR
    have RDN := Lib.hid hrN
    have RDR := Lib.hid hrR
    clear hrN hrR DN DR
    have q1 : (to == IntKind.u64.wrap to) = true := by rw [ET.out]; simp
    go_wp2_with fail
    try rw [EJ.out]
    refine (rsame_true _ (some ⟨w8.heap.size, 0, none⟩) 1 _ 1 [id] (w8.alloc (.cells #[.int .u64 id] 29)) rfl (RDN.out.below (below_alloc _ _)) (lit_row .u64 29 w8 [id] (show 1 ≤ maxLen by decide))).mono ?_
    rintro e w9 ⟨rfl, hb0⟩
    have hb : Below w8.heap.size w8 w9 := (below_alloc w8 (.cells #[.int .u64 id] 29)).trans (hb0.mono (by simp))
    clear hb0
    replace RDN := Lib.hid (RDN.out.below hb)
    replace RDR := Lib.hid (RDR.out.below hb)
    replace HA := Lib.hid (HA.out.below hb)
    clear hb
    go_wp2_with fail
    try rw [EJ.out]
    refine (rsame_true _ (some ⟨w9.heap.size, 0, none⟩) 1 _ 1 [J] (w9.alloc (.cells #[.int .u64 J] 29)) rfl (RDR.out.below (below_alloc _ _)) (lit_row .u64 29 w9 [J] (show 1 ≤ maxLen by decide))).mono ?_
    rintro e w10 ⟨rfl, hb0⟩
    have hb : Below w9.heap.size w9 w10 := (below_alloc w9 (.cells #[.int .u64 J] 29)).trans (hb0.mono (by simp))
    clear hb0
    replace RDN := Lib.hid (RDN.out.below hb)
    replace RDR := Lib.hid (RDR.out.below hb)
    replace HA := Lib.hid (HA.out.below hb)
    clear hb
    go_wp2_with fail
    refine (fixed_any _).mono ?_
    rintro e w11 ⟨rfl, hb⟩
    replace HA := Lib.hid (HA.out.below hb)
    clear hb
    go_wp2_with fail
    go_ret
    exact ⟨rfl, HA.out.low⟩
end Go.Proofs.Ytcnfchjiiglijaa
