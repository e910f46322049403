/- The law OfferBest returns true for any two texts, and its arguments read as they did. No conditions. -/
import Derived.Test.YtahlekcnleedhaaRows
import Derived.Test.YtahlekcnleedhaaOffN
import Derived.WalkKit
import Derived.ProofKit
import Derived.OpenShut
import Derived.ShutString
import Derived.ChangeOld
import Derived.Below
namespace Go.Proofs.Ytahlekcnleedhaa.offerBest
open Go.ChangeShapes Go.WideShapes Go.ChangeAt Go.RowKit
open Go.ChangeMaps (open_string shut_string)
open Go.Proofs.Ytahlekcnleedhaa
set_option linter.unusedVariables false
set_option linter.unusedSimpArgs false
set_option maxRecDepth 20000

theorem own : ownKnob Try.prog.godebug = none := by kernel_rfl
theorem laidOut : laidOutB Try.prog = true := by kernel_rfl

set_option maxHeartbeats 4000000 in
set_option maxRecDepth 100000 in
theorem walk0 (a1 a2 A B : ByteArray) (w : World) (m1 : (if (20 : Int) < (a1.size : Int) then (20 : Int) else (a1.size : Int)) = (A.size : Int)) (u1 : A.size ≤ a1.size) (v1 : A.size ≤ 20) (x1 : a1.extract 0 A.size = A) (w1 : a1.size ≤ maxLen)
    (m2 : (if (20 : Int) < (a2.size : Int) then (20 : Int) else (a2.size : Int)) = (B.size : Int)) (u2 : B.size ≤ a2.size) (v2 : B.size ≤ 20) (x2 : a2.extract 0 B.size = B) (w2 : a2.size ≤ maxLen) (v er : Int) (HBE : Hid (BestIs A B v er)) (hv : v = 0) (he : er = 3) (HRA : Hid (rightB A.data.toList = false)) (hbs : bothS A.data.toList B.data.toList = []) :
    Calls Try.prog 7 #[.string a1, .string a2] w fun e w' => e = .returned (.bool true) ∧ Below w.heap.size w w' := by
  have HA : Hid (A.size ≤ maxLen) := Lib.hid (by unfold maxLen; omega)
  have HB : Hid (B.size ≤ maxLen) := Lib.hid (by unfold maxLen; omega)
  unfold maxLen at w1 w2
  subst hv
  subst he
  have HBT : Hid ((⟨#[]⟩ : ByteArray).data.toList = bothS A.data.toList B.data.toList) := Lib.hid hbs.symm
  clear hbs
  go_enter Try.func7, Try.ntmps7
  go_wp2_with fail
  refine (best_any A B _ HA.out HB.out 0 3 HBE).mono ?_
  rintro e w1 ⟨rfl, hb⟩
  have H1 := Lib.hid (hb)
  clear hb
  go_wp2_with fail
  refine (right_any A _ HA.out false HRA).mono ?_
  rintro e w2 ⟨rfl, hb⟩
  have H2 := Lib.hid (H1.out.trans (hb.mono H1.out.size))
  clear hb H1
  go_wp2_with fail
  refine (both_any A B _ HA.out HB.out ⟨#[]⟩ HBT).mono ?_
  rintro e w3 ⟨rfl, hb⟩
  have H3 := Lib.hid (H2.out.trans (hb.mono H2.out.size))
  clear hb H2
  go_wp2_with fail
  refine (fixed_any _).mono ?_
  rintro e w4 ⟨rfl, hb⟩
  have H4 := Lib.hid (H3.out.trans (hb.mono H3.out.size))
  clear hb H3
  go_wp2_with fail
  go_ret
  exact ⟨rfl, H4.out⟩

set_option maxHeartbeats 4000000 in
set_option maxRecDepth 100000 in
theorem walk1 (a1 a2 A B : ByteArray) (w : World) (m1 : (if (20 : Int) < (a1.size : Int) then (20 : Int) else (a1.size : Int)) = (A.size : Int)) (u1 : A.size ≤ a1.size) (v1 : A.size ≤ 20) (x1 : a1.extract 0 A.size = A) (w1 : a1.size ≤ maxLen)
    (m2 : (if (20 : Int) < (a2.size : Int) then (20 : Int) else (a2.size : Int)) = (B.size : Int)) (u2 : B.size ≤ a2.size) (v2 : B.size ≤ 20) (x2 : a2.extract 0 B.size = B) (w2 : a2.size ≤ maxLen) (v er : Int) (HBE : Hid (BestIs A B v er)) (hv : v = 0) (he : er = 3) (HRA : Hid (rightB A.data.toList = true)) (HRB : Hid (rightB B.data.toList = false)) (hbs : bothS A.data.toList B.data.toList = []) :
    Calls Try.prog 7 #[.string a1, .string a2] w fun e w' => e = .returned (.bool true) ∧ Below w.heap.size w w' := by
  have HA : Hid (A.size ≤ maxLen) := Lib.hid (by unfold maxLen; omega)
  have HB : Hid (B.size ≤ maxLen) := Lib.hid (by unfold maxLen; omega)
  unfold maxLen at w1 w2
  subst hv
  subst he
  have HBT : Hid ((⟨#[]⟩ : ByteArray).data.toList = bothS A.data.toList B.data.toList) := Lib.hid hbs.symm
  clear hbs
  go_enter Try.func7, Try.ntmps7
  go_wp2_with fail
  refine (best_any A B _ HA.out HB.out 0 3 HBE).mono ?_
  rintro e w1 ⟨rfl, hb⟩
  have H1 := Lib.hid (hb)
  clear hb
  go_wp2_with fail
  refine (right_any A _ HA.out true HRA).mono ?_
  rintro e w2 ⟨rfl, hb⟩
  have H2 := Lib.hid (H1.out.trans (hb.mono H1.out.size))
  clear hb H1
  go_wp2_with fail
  refine (right_any B _ HB.out false HRB).mono ?_
  rintro e w3 ⟨rfl, hb⟩
  have H3 := Lib.hid (H2.out.trans (hb.mono H2.out.size))
  clear hb H2
  go_wp2_with fail
  refine (both_any A B _ HA.out HB.out ⟨#[]⟩ HBT).mono ?_
  rintro e w4 ⟨rfl, hb⟩
  have H4 := Lib.hid (H3.out.trans (hb.mono H3.out.size))
  clear hb H3
  go_wp2_with fail
  refine (fixed_any _).mono ?_
  rintro e w5 ⟨rfl, hb⟩
  have H5 := Lib.hid (H4.out.trans (hb.mono H4.out.size))
  clear hb H4
  go_wp2_with fail
  go_ret
  exact ⟨rfl, H5.out⟩

set_option maxHeartbeats 4000000 in
set_option maxRecDepth 100000 in
theorem walk2 (a1 a2 A B : ByteArray) (w : World) (m1 : (if (20 : Int) < (a1.size : Int) then (20 : Int) else (a1.size : Int)) = (A.size : Int)) (u1 : A.size ≤ a1.size) (v1 : A.size ≤ 20) (x1 : a1.extract 0 A.size = A) (w1 : a1.size ≤ maxLen)
    (m2 : (if (20 : Int) < (a2.size : Int) then (20 : Int) else (a2.size : Int)) = (B.size : Int)) (u2 : B.size ≤ a2.size) (v2 : B.size ≤ 20) (x2 : a2.extract 0 B.size = B) (w2 : a2.size ≤ maxLen) (v er : Int) (HBE : Hid (BestIs A B v er)) (hv : v = 0) (he : er = 11) (HRA : Hid (rightB A.data.toList = true)) (HRB : Hid (rightB B.data.toList = true)) (GA : Hid (hasI A.data.toList v = false)) (GB : Hid (hasI B.data.toList v = false)) (HM : Hid (∀ j, capB A.data.toList B.data.toList j = false)) :
    Calls Try.prog 7 #[.string a1, .string a2] w fun e w' => e = .returned (.bool true) ∧ Below w.heap.size w w' := by
  have HA : Hid (A.size ≤ maxLen) := Lib.hid (by unfold maxLen; omega)
  have HB : Hid (B.size ≤ maxLen) := Lib.hid (by unfold maxLen; omega)
  unfold maxLen at w1 w2
  subst hv
  subst he
  go_enter Try.func7, Try.ntmps7
  go_wp2_with fail
  refine (best_any A B _ HA.out HB.out 0 11 HBE).mono ?_
  rintro e w1 ⟨rfl, hb⟩
  have H1 := Lib.hid (hb)
  clear hb
  go_wp2_with fail
  refine (right_any A _ HA.out true HRA).mono ?_
  rintro e w2 ⟨rfl, hb⟩
  have H2 := Lib.hid (H1.out.trans (hb.mono H1.out.size))
  clear hb H1
  go_wp2_with fail
  refine (right_any B _ HB.out true HRB).mono ?_
  rintro e w3 ⟨rfl, hb⟩
  have H3 := Lib.hid (H2.out.trans (hb.mono H2.out.size))
  clear hb H2
  go_wp2_with fail
  go_loopw [7, 8] (fun i _ wr => ∃ (k : Nat), k ≤ A.size ∧ i = .int .i64 k ∧ Hid (Below w.heap.size w wr)) (fun i _ _ => A.size - (intOf i).toNat)
  case atStart => exact ⟨0, Nat.zero_le _, rfl, H3⟩
  case round =>
    clear H3
    obtain ⟨i, hi, rfl, HW⟩ := hrel
    by_cases hlt : i < A.size
    · have hlt' : (i : Int) < (A.size : Int) := by omega
      have hca := UInt8.toNat_lt A[i]
      go_wp2
      go_loopw [8] (fun i wr => ∃ (k : Nat), k ≤ B.size ∧ i = .int .i64 k ∧ Hid (Below w.heap.size w wr)) (fun i _ => B.size - (intOf i).toNat)
      case atStart => exact ⟨0, Nat.zero_le _, rfl, HW⟩
      case round =>
        clear HW
        obtain ⟨k, hk, rfl, HW2⟩ := hrel
        by_cases hlt2 : k < B.size
        · have hlt3 : (k : Int) < (B.size : Int) := by omega
          have hcb := UInt8.toNat_lt B[k]
          by_cases hq : A[i].toNat = B[k].toNat
          · exfalso
            have hx : A[i].toNat = B[k].toNat := hq
            have := HM.out A[i].toNat
            rw [capB] at this
            have h1 : inB A.data.toList A[i].toNat = true := inB_self.2 (by simp [ByteArray.getElem_eq_getElem_data])
            have h2 : inB B.data.toList A[i].toNat = true := by rw [hx]; exact inB_self.2 (by simp [ByteArray.getElem_eq_getElem_data])
            rw [h1, h2] at this
            cases this
          · have h1 : ((A[i].toNat : Int) == (B[k].toNat : Int)) = false := by simp; omega
            have h2 : (A[i].toNat == B[k].toNat) = false := by simp; omega
            clear hq
            go_wp2
            go_quiet (fail)
            go_wp2
            go_roundw
            case rel => exact ⟨k + 1, by omega, by go_num, Lib.hid (HW2.out.trans (drewN_below2 HW2.out.size _))⟩
            case measure => simp [intOf]; omega
        · obtain rfl : k = B.size := by omega
          clear hlt2
          go_wp2
          go_roundw
          case rel => exact ⟨i + 1, by omega, by go_num, HW2⟩
          case measure => simp [intOf]; omega
    · obtain rfl : i = A.size := by omega
      clear hlt
      go_wp2
      go_loop [9, 11] (fun r i => ∃ (k : Nat) (b : Bool), k ≤ A.size ∧ i = .int .i64 k ∧ r = .bool b ∧ Hid (hasI (A.data.toList.take k) 0 = b)) (fun _ i => A.size - (intOf i).toNat)
      case atStart => exact ⟨0, false, Nat.zero_le _, rfl, rfl, Lib.hid rfl⟩
      case round =>
        obtain ⟨k, b, hk, rfl, rfl, HS⟩ := hrel
        by_cases hlt : k < A.size
        · have hlt' : (k : Int) < (A.size : Int) := by omega
          have hcb := UInt8.toNat_lt A[k]
          have HT := Lib.hid (hasI_take A k hlt 0)
          cases b
          · by_cases hq : (A[k].toNat : Int) = 0
            · have hq' : ((A[k].toNat : Int) == 0) = true := by simpa using hq
              have HN : Hid (hasI (A.data.toList.take (k + 1)) 0 = true) := Lib.hid (by rw [HT.out, hq]; simp)
              clear hq
              go_wp2
              go_round
              case rel => exact ⟨k + 1, true, by omega, by go_num, rfl, HN⟩
              case measure => simp [intOf]; omega
            · have hq' : ((A[k].toNat : Int) == 0) = false := by simpa using hq
              have HN : Hid (hasI (A.data.toList.take (k + 1)) 0 = false) := Lib.hid (by rw [HT.out, HS.out]; simpa using hq)
              clear hq
              go_wp2
              go_round
              case rel => exact ⟨k + 1, false, by omega, by go_num, rfl, HN⟩
              case measure => simp [intOf]; omega
          · have HN : Hid (hasI (A.data.toList.take (k + 1)) 0 = true) := Lib.hid (by rw [HT.out, HS.out]; rfl)
            go_wp2
            go_round
            case rel => exact ⟨k + 1, true, by omega, by go_num, rfl, HN⟩
            case measure => simp [intOf]; omega
        · obtain rfl : k = A.size := by omega
          have e : A.data.toList.take A.size = A.data.toList := List.take_of_length_le (by simp)
          have hbv := HS.out
          rw [e, GA.out] at hbv
          subst hbv
          clear e hlt HS
          go_wp2_with fail
          go_loop [10, 12] (fun r i => ∃ (k : Nat) (b : Bool), k ≤ B.size ∧ i = .int .i64 k ∧ r = .bool b ∧ Hid (hasI (B.data.toList.take k) 0 = b)) (fun _ i => B.size - (intOf i).toNat)
          case atStart => exact ⟨0, false, Nat.zero_le _, rfl, rfl, Lib.hid rfl⟩
          case round =>
            obtain ⟨k, b, hk, rfl, rfl, HS⟩ := hrel
            by_cases hlt : k < B.size
            · have hlt' : (k : Int) < (B.size : Int) := by omega
              have hcb := UInt8.toNat_lt B[k]
              have HT := Lib.hid (hasI_take B k hlt 0)
              cases b
              · by_cases hq : (B[k].toNat : Int) = 0
                · have hq' : ((B[k].toNat : Int) == 0) = true := by simpa using hq
                  have HN : Hid (hasI (B.data.toList.take (k + 1)) 0 = true) := Lib.hid (by rw [HT.out, hq]; simp)
                  clear hq
                  go_wp2
                  go_round
                  case rel => exact ⟨k + 1, true, by omega, by go_num, rfl, HN⟩
                  case measure => simp [intOf]; omega
                · have hq' : ((B[k].toNat : Int) == 0) = false := by simpa using hq
                  have HN : Hid (hasI (B.data.toList.take (k + 1)) 0 = false) := Lib.hid (by rw [HT.out, HS.out]; simpa using hq)
                  clear hq
                  go_wp2
                  go_round
                  case rel => exact ⟨k + 1, false, by omega, by go_num, rfl, HN⟩
                  case measure => simp [intOf]; omega
              · have HN : Hid (hasI (B.data.toList.take (k + 1)) 0 = true) := Lib.hid (by rw [HT.out, HS.out]; rfl)
                go_wp2
                go_round
                case rel => exact ⟨k + 1, true, by omega, by go_num, rfl, HN⟩
                case measure => simp [intOf]; omega
            · obtain rfl : k = B.size := by omega
              have e : B.data.toList.take B.size = B.data.toList := List.take_of_length_le (by simp)
              have hbv := HS.out
              rw [e, GB.out] at hbv
              subst hbv
              clear e hlt HS
              go_wp2_with fail
              refine (fixed_any _).mono ?_
              rintro e w9 ⟨rfl, hb⟩
              go_wp2_with fail
              go_ret
              exact ⟨rfl, HW.out.trans (hb.mono HW.out.size)⟩

set_option maxHeartbeats 4000000 in
set_option maxRecDepth 100000 in
theorem walk3 (a1 a2 A B : ByteArray) (w : World) (m1 : (if (20 : Int) < (a1.size : Int) then (20 : Int) else (a1.size : Int)) = (A.size : Int)) (u1 : A.size ≤ a1.size) (v1 : A.size ≤ 20) (x1 : a1.extract 0 A.size = A) (w1 : a1.size ≤ maxLen)
    (m2 : (if (20 : Int) < (a2.size : Int) then (20 : Int) else (a2.size : Int)) = (B.size : Int)) (u2 : B.size ≤ a2.size) (v2 : B.size ≤ 20) (x2 : a2.extract 0 B.size = B) (w2 : a2.size ≤ maxLen) (v er : Int) (HBE : Hid (BestIs A B v er)) (hv1 : 1 ≤ v) (hv2 : v ≤ 255) (he : er = 0) (HRA : Hid (rightB A.data.toList = true)) (HRB : Hid (rightB B.data.toList = true)) (GA : Hid (hasI A.data.toList v = true)) (GB : Hid (hasI B.data.toList v = true)) (HM : Hid (∀ j : Nat, capB A.data.toList B.data.toList j = true → (j : Int) ≤ v)) :
    Calls Try.prog 7 #[.string a1, .string a2] w fun e w' => e = .returned (.bool true) ∧ Below w.heap.size w w' := by
  have HA : Hid (A.size ≤ maxLen) := Lib.hid (by unfold maxLen; omega)
  have HB : Hid (B.size ≤ maxLen) := Lib.hid (by unfold maxLen; omega)
  unfold maxLen at w1 w2
  subst he
  go_enter Try.func7, Try.ntmps7
  go_wp2_with fail
  refine (best_any A B _ HA.out HB.out v 0 HBE).mono ?_
  rintro e w1 ⟨rfl, hb⟩
  have H1 := Lib.hid (hb)
  clear hb
  go_wp2_with fail
  refine (right_any A _ HA.out true HRA).mono ?_
  rintro e w2 ⟨rfl, hb⟩
  have H2 := Lib.hid (H1.out.trans (hb.mono H1.out.size))
  clear hb H1
  go_wp2_with fail
  refine (right_any B _ HB.out true HRB).mono ?_
  rintro e w3 ⟨rfl, hb⟩
  have H3 := Lib.hid (H2.out.trans (hb.mono H2.out.size))
  clear hb H2
  go_wp2_with fail
  go_loopw [7, 8] (fun i _ wr => ∃ (k : Nat), k ≤ A.size ∧ i = .int .i64 k ∧ Hid (Below w.heap.size w wr)) (fun i _ _ => A.size - (intOf i).toNat)
  case atStart => exact ⟨0, Nat.zero_le _, rfl, H3⟩
  case round =>
    clear H3
    obtain ⟨i, hi, rfl, HW⟩ := hrel
    by_cases hlt : i < A.size
    · have hlt' : (i : Int) < (A.size : Int) := by omega
      have hca := UInt8.toNat_lt A[i]
      go_wp2
      go_loopw [8] (fun i wr => ∃ (k : Nat), k ≤ B.size ∧ i = .int .i64 k ∧ Hid (Below w.heap.size w wr)) (fun i _ => B.size - (intOf i).toNat)
      case atStart => exact ⟨0, Nat.zero_le _, rfl, HW⟩
      case round =>
        clear HW
        obtain ⟨k, hk, rfl, HW2⟩ := hrel
        by_cases hlt2 : k < B.size
        · have hlt3 : (k : Int) < (B.size : Int) := by omega
          have hcb := UInt8.toNat_lt B[k]
          by_cases hq : A[i].toNat = B[k].toNat
          · have hx : A[i].toNat = B[k].toNat := hq
            have HMX : Hid ((A[i].toNat : Int) ≤ v) := Lib.hid (HM.out A[i].toNat (by rw [capB, Bool.and_eq_true]; exact ⟨inB_self.2 (by simp [ByteArray.getElem_eq_getElem_data]), by rw [hx]; exact inB_self.2 (by simp [ByteArray.getElem_eq_getElem_data])⟩))
            have hm := HMX.out
            have h3 : decide (v < (A[i].toNat : Int)) = false := by simp; omega
            have h1 : ((A[i].toNat : Int) == (B[k].toNat : Int)) = true := by simp [hx]
            have h2 : (A[i].toNat == B[k].toNat) = true := by simp [hx]
            clear hq hx hm
            go_wp2
            go_quiet (fail)
            go_wp2
            go_roundw
            case rel => exact ⟨k + 1, by omega, by go_num, Lib.hid (HW2.out.trans (drewN_below2 HW2.out.size _))⟩
            case measure => simp [intOf]; omega
          · have h1 : ((A[i].toNat : Int) == (B[k].toNat : Int)) = false := by simp; omega
            have h2 : (A[i].toNat == B[k].toNat) = false := by simp; omega
            clear hq
            go_wp2
            go_quiet (fail)
            go_wp2
            go_roundw
            case rel => exact ⟨k + 1, by omega, by go_num, Lib.hid (HW2.out.trans (drewN_below2 HW2.out.size _))⟩
            case measure => simp [intOf]; omega
        · obtain rfl : k = B.size := by omega
          clear hlt2
          go_wp2
          go_roundw
          case rel => exact ⟨i + 1, by omega, by go_num, HW2⟩
          case measure => simp [intOf]; omega
    · obtain rfl : i = A.size := by omega
      clear hlt
      go_wp2
      go_loop [9, 11] (fun r i => ∃ (k : Nat) (b : Bool), k ≤ A.size ∧ i = .int .i64 k ∧ r = .bool b ∧ Hid (hasI (A.data.toList.take k) v = b)) (fun _ i => A.size - (intOf i).toNat)
      case atStart => exact ⟨0, false, Nat.zero_le _, rfl, rfl, Lib.hid rfl⟩
      case round =>
        obtain ⟨k, b, hk, rfl, rfl, HS⟩ := hrel
        by_cases hlt : k < A.size
        · have hlt' : (k : Int) < (A.size : Int) := by omega
          have hcb := UInt8.toNat_lt A[k]
          have HT := Lib.hid (hasI_take A k hlt v)
          cases b
          · by_cases hq : (A[k].toNat : Int) = v
            · have hq' : ((A[k].toNat : Int) == v) = true := by simpa using hq
              have HN : Hid (hasI (A.data.toList.take (k + 1)) v = true) := Lib.hid (by rw [HT.out, hq]; simp)
              clear hq
              go_wp2
              go_round
              case rel => exact ⟨k + 1, true, by omega, by go_num, rfl, HN⟩
              case measure => simp [intOf]; omega
            · have hq' : ((A[k].toNat : Int) == v) = false := by simpa using hq
              have HN : Hid (hasI (A.data.toList.take (k + 1)) v = false) := Lib.hid (by rw [HT.out, HS.out]; simpa using hq)
              clear hq
              go_wp2
              go_round
              case rel => exact ⟨k + 1, false, by omega, by go_num, rfl, HN⟩
              case measure => simp [intOf]; omega
          · have HN : Hid (hasI (A.data.toList.take (k + 1)) v = true) := Lib.hid (by rw [HT.out, HS.out]; rfl)
            go_wp2
            go_round
            case rel => exact ⟨k + 1, true, by omega, by go_num, rfl, HN⟩
            case measure => simp [intOf]; omega
        · obtain rfl : k = A.size := by omega
          have e : A.data.toList.take A.size = A.data.toList := List.take_of_length_le (by simp)
          have hbv := HS.out
          rw [e, GA.out] at hbv
          subst hbv
          clear e hlt HS
          go_wp2_with fail
          go_loop [10, 12] (fun r i => ∃ (k : Nat) (b : Bool), k ≤ B.size ∧ i = .int .i64 k ∧ r = .bool b ∧ Hid (hasI (B.data.toList.take k) v = b)) (fun _ i => B.size - (intOf i).toNat)
          case atStart => exact ⟨0, false, Nat.zero_le _, rfl, rfl, Lib.hid rfl⟩
          case round =>
            obtain ⟨k, b, hk, rfl, rfl, HS⟩ := hrel
            by_cases hlt : k < B.size
            · have hlt' : (k : Int) < (B.size : Int) := by omega
              have hcb := UInt8.toNat_lt B[k]
              have HT := Lib.hid (hasI_take B k hlt v)
              cases b
              · by_cases hq : (B[k].toNat : Int) = v
                · have hq' : ((B[k].toNat : Int) == v) = true := by simpa using hq
                  have HN : Hid (hasI (B.data.toList.take (k + 1)) v = true) := Lib.hid (by rw [HT.out, hq]; simp)
                  clear hq
                  go_wp2
                  go_round
                  case rel => exact ⟨k + 1, true, by omega, by go_num, rfl, HN⟩
                  case measure => simp [intOf]; omega
                · have hq' : ((B[k].toNat : Int) == v) = false := by simpa using hq
                  have HN : Hid (hasI (B.data.toList.take (k + 1)) v = false) := Lib.hid (by rw [HT.out, HS.out]; simpa using hq)
                  clear hq
                  go_wp2
                  go_round
                  case rel => exact ⟨k + 1, false, by omega, by go_num, rfl, HN⟩
                  case measure => simp [intOf]; omega
              · have HN : Hid (hasI (B.data.toList.take (k + 1)) v = true) := Lib.hid (by rw [HT.out, HS.out]; rfl)
                go_wp2
                go_round
                case rel => exact ⟨k + 1, true, by omega, by go_num, rfl, HN⟩
                case measure => simp [intOf]; omega
            · obtain rfl : k = B.size := by omega
              have e : B.data.toList.take B.size = B.data.toList := List.take_of_length_le (by simp)
              have hbv := HS.out
              rw [e, GB.out] at hbv
              subst hbv
              clear e hlt HS
              go_wp2_with fail
              refine (fixed_any _).mono ?_
              rintro e w9 ⟨rfl, hb⟩
              go_wp2_with fail
              go_ret
              exact ⟨rfl, HW.out.trans (hb.mono HW.out.size)⟩

theorem walk (a1 a2 : ByteArray) (w : World) (w1 : a1.size ≤ maxLen) (w2 : a2.size ≤ maxLen) :
    Calls Try.prog 7 #[.string a1, .string a2] w fun e w' => e = .returned (.bool true) ∧ Below w.heap.size w w' := by
  obtain ⟨A, m1, u1, v1, x1⟩ := slice_facts a1 20
  obtain ⟨B, m2, u2, v2, x2⟩ := slice_facts a2 20
  have n1 : (if (20 : Int) < (a1.size : Int) then (20 : Int) else (a1.size : Int)) = (A.size : Int) := by rw [← m1]; omega
  have n2 : (if (20 : Int) < (a2.size : Int) then (20 : Int) else (a2.size : Int)) = (B.size : Int) := by rw [← m2]; omega
  obtain ⟨v, er, hbe⟩ : ∃ v er, BestIs A B v er := ⟨_, _, rfl, rfl⟩
  have HBE := Lib.hid hbe
  rcases best_cases hbe with ⟨hf, q1, q2, q3⟩ | ⟨hf, q1, q2, q3, q4, q5, q6⟩ | ⟨hf, q1, q1', q2, q3, q4, q5, q6⟩
  · cases ha : rightB A.data.toList
    · exact walk0 a1 a2 A B w n1 u1 v1 x1 w1 n2 u2 v2 x2 w2 v er HBE q1 q2 (Lib.hid ha) q3
    · have hb : rightB B.data.toList = false := by rw [formB, ha] at hf; simpa using hf
      exact walk1 a1 a2 A B w n1 u1 v1 x1 w1 n2 u2 v2 x2 w2 v er HBE q1 q2 (Lib.hid ha) (Lib.hid hb) q3
  · have ⟨ha, hb⟩ := formB_iff.1 hf
    exact walk2 a1 a2 A B w n1 u1 v1 x1 w1 n2 u2 v2 x2 w2 v er HBE q1 q2 (Lib.hid ha) (Lib.hid hb) (Lib.hid (by rw [q1]; exact q4)) (Lib.hid (by rw [q1]; exact q5)) (Lib.hid q6)
  · have ⟨ha, hb⟩ := formB_iff.1 hf
    exact walk3 a1 a2 A B w n1 u1 v1 x1 w1 n2 u2 v2 x2 w2 v er HBE q1 q1' q2 (Lib.hid ha) (Lib.hid hb) (Lib.hid q4) (Lib.hid q5) (Lib.hid q6)

set_option maxRecDepth 100000 in
theorem lifted (os : Os) (started : os.Started) (H : Type) (enc : TypeId × Value → H) :
    ReturnsInHanded {} Try.checked os 7 .any (Rows.offerBestSpec.pre6 enc Try.prog Try.f7 Rows.offerBestRow.domain false) (Rows.offerBestSpec.post enc Try.prog Try.f7 false true false false) := by
  refine returnsInHanded_of_change (C := Try.checked) own started (by kernel_rfl) Try.func7
    (ChangeSpec.witness6 (enc := enc) (C := Try.checked) false ⟨#[], #[.string ByteArray.empty, .string ByteArray.empty], []⟩ 8 (by kernel_rfl) (by kernel_rfl) (by kernel_rfl) (by kernel_rfl)) ?_
  intro W base args ds gs before hval0 hW hcnd _
  have hval : ∀ (j : Nat) t v, Try.f7.params[j]? = some t → args[j]? = some v → Value.okWide Try.prog W .any base t v := hval0
  have hW' := hW
  obtain ⟨p, q, hA0, hV, rfl, hfz, hnd⟩ := hW
  have hA : DataW.TrodAll enc Try.prog W 0 (fun _ => true) true Try.f7.params.toList args.toList ds p := hA0
  rw [Try.params7] at hA hval
  obtain ⟨v0, vs0, d0, ds0, p0, q0, hargs, rfl, rfl, h0, r0⟩ := trodAll_cons hA
  obtain ⟨v1, vs1, d1, ds1, p1, q1, rfl, rfl, rfl, h1, r1⟩ := trodAll_cons r0
  obtain ⟨rfl, rfl, rfl⟩ := trodAll_nil r1
  obtain rfl : args = #[v0, v1] := by cases args; simp_all
  obtain ⟨rfl, rfl⟩ := trodVars_none hV
  obtain ⟨a0, rfl, rfl, rfl, w0⟩ := open_string Try.underlying9 (hval 0 9 v0 rfl rfl) h0
  obtain ⟨a1, rfl, rfl, rfl, w1⟩ := open_string Try.underlying9 (hval 1 9 v1 rfl rfl) h1
  clear hA0 hval0
  refine (walk a0 a1 W w0 w1).mono fun e W' ⟨he, bel⟩ => ?_
  subst he
  exact ⟨_, rfl, _, _, _, [], _, [], hW', trodAll_mk1 (shut_bool Try.underlying4 _), (trodAll_cons_mk (shut_string Try.underlying9 w0) (trodAll_cons_mk (shut_string Try.underlying9 w1) trodAll_mk0)), rfl, bel.frame _, fun h => by cases h⟩

theorem over : Rows.offerBestRow.holds Try.pinned (OpenSpec.ofChange Rows.offerBestSpec) :=
  OpenClaim.holds_of_wide 7 Try.f7 rfl rfl rfl rfl rfl rfl rfl ⟨rfl, rfl, rfl, rfl, rfl⟩ rfl rfl rfl rfl rfl (by kernel_rfl) Try.func7 (by kernel_rfl)
    (of_decide_eq_true (by kernel_rfl)) (by unfold Func.isWrapper; first | (rw [if_pos (by decide +kernel)]; kernel_rfl) | (rw [if_neg (by decide +kernel)]; exact ⟨rfl, rfl⟩))
    (fun os started H enc _ => lifted os started H enc)

theorem proved : Rows.OfferBestSaid := over
#print axioms proved
end Go.Proofs.Ytahlekcnleedhaa.offerBest
