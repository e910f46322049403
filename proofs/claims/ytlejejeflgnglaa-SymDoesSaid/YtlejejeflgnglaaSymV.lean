/- The law's names: of a number, of at most 1007 bytes. -/
import Derived.Test.YtlejejeflgnglaaSymN
import Derived.Laws.Concat
namespace Go.Proofs.Ytlejejeflgnglaa
open Go.RowKit
set_option linter.unusedVariables false
set_option linter.unusedSimpArgs false

theorem i64_and3 (n : Int) : bits .and .i64 n 3 = n % 4 := by
  have h : (BitVec.ofInt 64 3).toNat = 2 ^ 2 - 1 := by decide
  have key : (BitVec.ofInt 64 n &&& BitVec.ofInt 64 3).toNat = (n % ((2 ^ 64 : Nat) : Int)).toNat % 2 ^ 2 := by
    rw [BitVec.toNat_and, BitVec.toNat_ofInt, h, Nat.and_two_pow_sub_one_eq_mod]
  show IntKind.i64.wrap ((BitVec.ofInt 64 n &&& BitVec.ofInt 64 3).toNat : Nat) = n % 4
  rw [key, IntKind.wrap_i64]
  omega
theorem i64_and7 (n : Int) : bits .and .i64 n 7 = n % 8 := by
  have h : (BitVec.ofInt 64 7).toNat = 2 ^ 3 - 1 := by decide
  have key : (BitVec.ofInt 64 n &&& BitVec.ofInt 64 7).toNat = (n % ((2 ^ 64 : Nat) : Int)).toNat % 2 ^ 3 := by
    rw [BitVec.toNat_and, BitVec.toNat_ofInt, h, Nat.and_two_pow_sub_one_eq_mod]
  show IntKind.i64.wrap ((BitVec.ofInt 64 n &&& BitVec.ofInt 64 7).toNat : Nat) = n % 8
  rw [key, IntKind.wrap_i64]
  omega
def baseS (v : Int) : ByteArray := if v = 0 then ⟨#[]⟩ else if v = 1 then ⟨#[120]⟩ else if v = 2 then ⟨#[116, 117, 110, 110, 101, 108]⟩ else ⟨#[121, 122]⟩
def catA : Nat → ByteArray → ByteArray
  | 0, S => S
  | n + 1, S => catA n S ++ ⟨#[97]⟩
theorem catA_size (n : Nat) (S : ByteArray) : (catA n S).size = S.size + n := by
  induction n with
  | zero => rfl
  | succ n ih =>
    show (catA n S ++ ⟨#[97]⟩).size = _
    rw [ByteArray.size_append, ih]
    show S.size + n + 1 = _
    omega
theorem base_size (v : Int) : (baseS v).size ≤ 6 := by
  unfold baseS
  split
  · decide
  · split
    · decide
    · split <;> decide
def nameF (x : Int) : ByteArray := if (bits .and .i64 x 28 == 28) = true then catA 1001 (baseS (x % 4)) else baseS (x % 4)
theorem name_wf (x : Int) : (nameF x).size ≤ maxLen := by
  have h := base_size (x % 4)
  unfold nameF maxLen
  split
  · rw [catA_size]; omega
  · omega

set_option maxHeartbeats 1000000 in
theorem names_c (x : Int) (w : World) : Calls Try.prog 12 #[.int .i64 x] w fun e w' => e = .returned (.string (nameF x)) ∧ Below w.heap.size w w' := by
  have h3 := i64_and3 x
  obtain ⟨m, hm⟩ : ∃ m : Bool, (bits .and .i64 x 28 == 28) = m := ⟨_, rfl⟩
  obtain ⟨S, hS⟩ : ∃ S, S = nameF x := ⟨_, rfl⟩
  rw [← hS]
  have HS := Lib.hid hS
  clear hS
  have h4 : x % 4 = 0 ∨ x % 4 = 1 ∨ x % 4 = 2 ∨ x % 4 = 3 := by omega
  rcases h4 with h4 | h4 | h4 | h4
  · have HN := Lib.hid h4
    rw [h4] at h3
    have HM := Lib.hid hm
    clear h4
    go_enter Try.func12, Try.ntmps12
    go_wp2_with fail
    go_loopw [3, 4] (fun s i wr => ∃ j : Nat, j ≤ 1001 ∧ s = .string (catA j (baseS 0)) ∧ i = .int .i64 (j : Nat) ∧ Hid (m = false → j = 0) ∧ Hid (Below w.heap.size w wr)) (fun _ i _ => 1001 - (intOf i).toNat)
    case atStart => exact ⟨0, by omega, rfl, rfl, Lib.hid (fun _ => rfl), Lib.hid ((Below.refl _ _).alloc (Nat.le_refl _) _)⟩
    case round =>
      obtain ⟨j, hj, rfl, rfl, hj0, HB⟩ := hrel
      have Hj := Lib.hid hj
      cases m with
      | false =>
        have h0 := hj0.out rfl
        subst h0
        have hS : catA 0 (baseS 0) = S := by rw [HS.out]; unfold nameF; rw [HN.out, HM.out]; rfl
        go_wp2_with fail
        go_ret
        exact ⟨rfl, HB.out⟩
      | true =>
        by_cases h1 : j < 1001
        · have h2 : (j : Int) < 1001 := by omega
          have hz := catA_size j (baseS 0)
          have hb := base_size 0
          have hsz : ¬ ((catA j (baseS 0)).size + 1 > 9223372036854775807) := by omega
          have hsz2 : ¬ (9223372036854775807 < (catA j (baseS 0)).size + 1) := by omega
          clear hz hb hj
          go_wp2_with fail
          go_roundw
          case rel => exact ⟨j + 1, by have := Hj.out; omega, rfl, by go_num, Lib.hid (fun h => by cases h), HB⟩
          case measure => have := Hj.out; simp [intOf]; omega
        · have h2 : decide ((j : Int) < 1001) = false := by simp; omega
          have hj1 : j = 1001 := by omega
          have hS : catA j (baseS 0) = S := by rw [HS.out]; unfold nameF; rw [HN.out, HM.out, hj1]; rfl
          have HSj := Lib.hid hS
          clear hj h1 hj1 hS
          go_wp2_with fail
          go_ret
          exact ⟨by show Ending.returned (.string (catA j (baseS 0))) = _; rw [HSj.out], HB.out⟩
  · have HN := Lib.hid h4
    rw [h4] at h3
    have HM := Lib.hid hm
    clear h4
    go_enter Try.func12, Try.ntmps12
    go_wp2_with fail
    go_loopw [3, 4] (fun s i wr => ∃ j : Nat, j ≤ 1001 ∧ s = .string (catA j (baseS 1)) ∧ i = .int .i64 (j : Nat) ∧ Hid (m = false → j = 0) ∧ Hid (Below w.heap.size w wr)) (fun _ i _ => 1001 - (intOf i).toNat)
    case atStart => exact ⟨0, by omega, rfl, rfl, Lib.hid (fun _ => rfl), Lib.hid ((Below.refl _ _).alloc (Nat.le_refl _) _)⟩
    case round =>
      obtain ⟨j, hj, rfl, rfl, hj0, HB⟩ := hrel
      have Hj := Lib.hid hj
      cases m with
      | false =>
        have h0 := hj0.out rfl
        subst h0
        have hS : catA 0 (baseS 1) = S := by rw [HS.out]; unfold nameF; rw [HN.out, HM.out]; rfl
        go_wp2_with fail
        go_ret
        exact ⟨rfl, HB.out⟩
      | true =>
        by_cases h1 : j < 1001
        · have h2 : (j : Int) < 1001 := by omega
          have hz := catA_size j (baseS 1)
          have hb := base_size 1
          have hsz : ¬ ((catA j (baseS 1)).size + 1 > 9223372036854775807) := by omega
          have hsz2 : ¬ (9223372036854775807 < (catA j (baseS 1)).size + 1) := by omega
          clear hz hb hj
          go_wp2_with fail
          go_roundw
          case rel => exact ⟨j + 1, by have := Hj.out; omega, rfl, by go_num, Lib.hid (fun h => by cases h), HB⟩
          case measure => have := Hj.out; simp [intOf]; omega
        · have h2 : decide ((j : Int) < 1001) = false := by simp; omega
          have hj1 : j = 1001 := by omega
          have hS : catA j (baseS 1) = S := by rw [HS.out]; unfold nameF; rw [HN.out, HM.out, hj1]; rfl
          have HSj := Lib.hid hS
          clear hj h1 hj1 hS
          go_wp2_with fail
          go_ret
          exact ⟨by show Ending.returned (.string (catA j (baseS 1))) = _; rw [HSj.out], HB.out⟩
  · have HN := Lib.hid h4
    rw [h4] at h3
    have HM := Lib.hid hm
    clear h4
    go_enter Try.func12, Try.ntmps12
    go_wp2_with fail
    go_loopw [3, 4] (fun s i wr => ∃ j : Nat, j ≤ 1001 ∧ s = .string (catA j (baseS 2)) ∧ i = .int .i64 (j : Nat) ∧ Hid (m = false → j = 0) ∧ Hid (Below w.heap.size w wr)) (fun _ i _ => 1001 - (intOf i).toNat)
    case atStart => exact ⟨0, by omega, rfl, rfl, Lib.hid (fun _ => rfl), Lib.hid ((Below.refl _ _).alloc (Nat.le_refl _) _)⟩
    case round =>
      obtain ⟨j, hj, rfl, rfl, hj0, HB⟩ := hrel
      have Hj := Lib.hid hj
      cases m with
      | false =>
        have h0 := hj0.out rfl
        subst h0
        have hS : catA 0 (baseS 2) = S := by rw [HS.out]; unfold nameF; rw [HN.out, HM.out]; rfl
        go_wp2_with fail
        go_ret
        exact ⟨rfl, HB.out⟩
      | true =>
        by_cases h1 : j < 1001
        · have h2 : (j : Int) < 1001 := by omega
          have hz := catA_size j (baseS 2)
          have hb := base_size 2
          have hsz : ¬ ((catA j (baseS 2)).size + 1 > 9223372036854775807) := by omega
          have hsz2 : ¬ (9223372036854775807 < (catA j (baseS 2)).size + 1) := by omega
          clear hz hb hj
          go_wp2_with fail
          go_roundw
          case rel => exact ⟨j + 1, by have := Hj.out; omega, rfl, by go_num, Lib.hid (fun h => by cases h), HB⟩
          case measure => have := Hj.out; simp [intOf]; omega
        · have h2 : decide ((j : Int) < 1001) = false := by simp; omega
          have hj1 : j = 1001 := by omega
          have hS : catA j (baseS 2) = S := by rw [HS.out]; unfold nameF; rw [HN.out, HM.out, hj1]; rfl
          have HSj := Lib.hid hS
          clear hj h1 hj1 hS
          go_wp2_with fail
          go_ret
          exact ⟨by show Ending.returned (.string (catA j (baseS 2))) = _; rw [HSj.out], HB.out⟩
  · have HN := Lib.hid h4
    rw [h4] at h3
    have HM := Lib.hid hm
    clear h4
    go_enter Try.func12, Try.ntmps12
    go_wp2_with fail
    go_loopw [3, 4] (fun s i wr => ∃ j : Nat, j ≤ 1001 ∧ s = .string (catA j (baseS 3)) ∧ i = .int .i64 (j : Nat) ∧ Hid (m = false → j = 0) ∧ Hid (Below w.heap.size w wr)) (fun _ i _ => 1001 - (intOf i).toNat)
    case atStart => exact ⟨0, by omega, rfl, rfl, Lib.hid (fun _ => rfl), Lib.hid ((Below.refl _ _).alloc (Nat.le_refl _) _)⟩
    case round =>
      obtain ⟨j, hj, rfl, rfl, hj0, HB⟩ := hrel
      have Hj := Lib.hid hj
      cases m with
      | false =>
        have h0 := hj0.out rfl
        subst h0
        have hS : catA 0 (baseS 3) = S := by rw [HS.out]; unfold nameF; rw [HN.out, HM.out]; rfl
        go_wp2_with fail
        go_ret
        exact ⟨rfl, HB.out⟩
      | true =>
        by_cases h1 : j < 1001
        · have h2 : (j : Int) < 1001 := by omega
          have hz := catA_size j (baseS 3)
          have hb := base_size 3
          have hsz : ¬ ((catA j (baseS 3)).size + 1 > 9223372036854775807) := by omega
          have hsz2 : ¬ (9223372036854775807 < (catA j (baseS 3)).size + 1) := by omega
          clear hz hb hj
          go_wp2_with fail
          go_roundw
          case rel => exact ⟨j + 1, by have := Hj.out; omega, rfl, by go_num, Lib.hid (fun h => by cases h), HB⟩
          case measure => have := Hj.out; simp [intOf]; omega
        · have h2 : decide ((j : Int) < 1001) = false := by simp; omega
          have hj1 : j = 1001 := by omega
          have hS : catA j (baseS 3) = S := by rw [HS.out]; unfold nameF; rw [HN.out, HM.out, hj1]; rfl
          have HSj := Lib.hid hS
          clear hj h1 hj1 hS
          go_wp2_with fail
          go_ret
          exact ⟨by show Ending.returned (.string (catA j (baseS 3))) = _; rw [HSj.out], HB.out⟩
end Go.Proofs.Ytlejejeflgnglaa
