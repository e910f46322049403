/- A part: the program's Right, Encode, Decode. -/
import Derived.Test.YtjcgckhheegonaaFragD
import Derived.Shelf.LaysM
import Derived.Shelf.Strconv.Clone
namespace Go.Proofs.Ytjcgckhheegonaa
open Go.RowKit
set_option linter.unusedVariables false
set_option linter.unusedSimpArgs false
set_option maxRecDepth 20000

def fitsB (x m : Int) : Bool := decide (1 ≤ x) && decide (x ≤ m)
theorem rightF_fits (id ix ct : Int) (s : ByteArray) : rightF ⟨id, ix, ct, s⟩ = (fitsB id 4294967296 && (fitsB ct 16 && (decide (0 ≤ ix) && (decide (ix < ct) && fitsB s.size 1000)))) := by
  rw [Bool.eq_iff_iff, rightF_iff]
  simp only [fitsB, Bool.and_eq_true, decide_eq_true_eq]
  constructor <;> intro h <;> refine ⟨?_, ?_⟩ <;> omega

set_option maxHeartbeats 1000000 in
theorem fits_u64 (x m : Int) (w : World) (b : Bool) (hb : Hid (fitsB x m = b)) :
    Calls Try.prog 32 #[.int .u64 x, .int .u64 m] w fun e w' => e = .returned (.bool b) ∧ w' = w := by
  by_cases p0 : 1 ≤ x
  · have d0 : decide (1 ≤ x) = true := by simpa using p0
    by_cases p1 : x ≤ m
    · have d1 : decide (x ≤ m) = true := by simpa using p1
      have HE : Hid (true = b) := Lib.hid (by rw [← hb.out, fitsB, d0, d1]; rfl)
      clear p0 p1 hb
      go_enter Try.func32, Try.ntmps32
      go_wp2
      go_ret
      exact ⟨by rw [← HE.out]; rfl, rfl⟩
    · have d1 : decide (x ≤ m) = false := by simpa using p1
      have HE : Hid (false = b) := Lib.hid (by rw [← hb.out, fitsB, d0, d1]; rfl)
      clear p0 p1 hb
      go_enter Try.func32, Try.ntmps32
      go_wp2
      go_ret
      exact ⟨by rw [← HE.out]; rfl, rfl⟩
  · have d0 : decide (1 ≤ x) = false := by simpa using p0
    have HE : Hid (false = b) := Lib.hid (by rw [← hb.out, fitsB, d0]; rfl)
    clear p0 hb
    go_enter Try.func32, Try.ntmps32
    go_wp2
    go_ret
    exact ⟨by rw [← HE.out]; rfl, rfl⟩

set_option maxHeartbeats 1000000 in
theorem fits_i64 (x m : Int) (w : World) (b : Bool) (hb : Hid (fitsB x m = b)) :
    Calls Try.prog 33 #[.int .i64 x, .int .i64 m] w fun e w' => e = .returned (.bool b) ∧ w' = w := by
  by_cases p0 : 1 ≤ x
  · have d0 : decide (1 ≤ x) = true := by simpa using p0
    by_cases p1 : x ≤ m
    · have d1 : decide (x ≤ m) = true := by simpa using p1
      have HE : Hid (true = b) := Lib.hid (by rw [← hb.out, fitsB, d0, d1]; rfl)
      clear p0 p1 hb
      go_enter Try.func33, Try.ntmps33
      go_wp2
      go_ret
      exact ⟨by rw [← HE.out]; rfl, rfl⟩
    · have d1 : decide (x ≤ m) = false := by simpa using p1
      have HE : Hid (false = b) := Lib.hid (by rw [← hb.out, fitsB, d0, d1]; rfl)
      clear p0 p1 hb
      go_enter Try.func33, Try.ntmps33
      go_wp2
      go_ret
      exact ⟨by rw [← HE.out]; rfl, rfl⟩
  · have d0 : decide (1 ≤ x) = false := by simpa using p0
    have HE : Hid (false = b) := Lib.hid (by rw [← hb.out, fitsB, d0]; rfl)
    clear p0 hb
    go_enter Try.func33, Try.ntmps33
    go_wp2
    go_ret
    exact ⟨by rw [← HE.out]; rfl, rfl⟩

set_option maxHeartbeats 4000000 in
theorem right_f (id ix ct : Int) (s : ByteArray) (w : World) (hs : s.size ≤ maxLen) (b : Bool) (hb : Hid (rightF ⟨id, ix, ct, s⟩ = b)) :
    Calls Try.prog 25 #[.agg #[.int .u64 id, .int .i64 ix, .int .i64 ct, .string s]] w fun e w' => e = .returned (.bool b) ∧ Below w.heap.size w w' := by
  unfold maxLen at hs
  have HR := Lib.hid (rightF_fits id ix ct s)
  cases q0 : fitsB id 4294967296 with
  | false =>
    have HE : Hid (false = b) := Lib.hid (by rw [← hb.out, HR.out]; simp only [q0]; rfl)
    have Q0 := Lib.hid q0; clear q0
    clear hb HR
    go_enter Try.func25, Try.ntmps25
    go_wp2_with fail
    refine (fits_u64 id 4294967296 _ false Q0).mono ?_
    rintro e w1 ⟨rfl, rfl⟩
    go_wp2
    go_ret
    exact ⟨by rw [← HE.out]; rfl, below_alloc _ _⟩
  | true =>
    cases q1 : fitsB ct 16 with
    | false =>
      have HE : Hid (false = b) := Lib.hid (by rw [← hb.out, HR.out]; simp only [q0, q1]; rfl)
      have Q0 := Lib.hid q0; clear q0
      have Q1 := Lib.hid q1; clear q1
      clear hb HR
      go_enter Try.func25, Try.ntmps25
      go_wp2_with fail
      refine (fits_u64 id 4294967296 _ true Q0).mono ?_
      rintro e w1 ⟨rfl, rfl⟩
      go_wp2_with fail
      refine (fits_i64 ct 16 _ false Q1).mono ?_
      rintro e w1 ⟨rfl, rfl⟩
      go_wp2
      go_ret
      exact ⟨by rw [← HE.out]; rfl, below_alloc _ _⟩
    | true =>
      cases q2 : decide (0 ≤ ix) with
      | false =>
        have HE : Hid (false = b) := Lib.hid (by rw [← hb.out, HR.out]; simp only [q0, q1, q2]; rfl)
        have Q0 := Lib.hid q0; clear q0
        have Q1 := Lib.hid q1; clear q1
        clear hb HR
        go_enter Try.func25, Try.ntmps25
        go_wp2_with fail
        refine (fits_u64 id 4294967296 _ true Q0).mono ?_
        rintro e w1 ⟨rfl, rfl⟩
        go_wp2_with fail
        refine (fits_i64 ct 16 _ true Q1).mono ?_
        rintro e w1 ⟨rfl, rfl⟩
        go_wp2
        go_ret
        exact ⟨by rw [← HE.out]; rfl, below_alloc _ _⟩
      | true =>
        cases q3 : decide (ix < ct) with
        | false =>
          have HE : Hid (false = b) := Lib.hid (by rw [← hb.out, HR.out]; simp only [q0, q1, q2, q3]; rfl)
          have Q0 := Lib.hid q0; clear q0
          have Q1 := Lib.hid q1; clear q1
          clear hb HR
          go_enter Try.func25, Try.ntmps25
          go_wp2_with fail
          refine (fits_u64 id 4294967296 _ true Q0).mono ?_
          rintro e w1 ⟨rfl, rfl⟩
          go_wp2_with fail
          refine (fits_i64 ct 16 _ true Q1).mono ?_
          rintro e w1 ⟨rfl, rfl⟩
          go_wp2
          go_ret
          exact ⟨by rw [← HE.out]; rfl, below_alloc _ _⟩
        | true =>
          cases q4 : fitsB (s.size : Int) 1000 with
          | false =>
            have HE : Hid (false = b) := Lib.hid (by rw [← hb.out, HR.out]; simp only [q0, q1, q2, q3, q4]; rfl)
            have Q0 := Lib.hid q0; clear q0
            have Q1 := Lib.hid q1; clear q1
            have Q4 := Lib.hid q4; clear q4
            clear hb HR
            go_enter Try.func25, Try.ntmps25
            go_wp2_with fail
            refine (fits_u64 id 4294967296 _ true Q0).mono ?_
            rintro e w1 ⟨rfl, rfl⟩
            go_wp2_with fail
            refine (fits_i64 ct 16 _ true Q1).mono ?_
            rintro e w1 ⟨rfl, rfl⟩
            go_wp2_with fail
            refine (fits_i64 (s.size : Int) 1000 _ false Q4).mono ?_
            rintro e w1 ⟨rfl, rfl⟩
            go_wp2
            go_ret
            exact ⟨by rw [← HE.out]; rfl, below_alloc _ _⟩
          | true =>
            have HE : Hid (true = b) := Lib.hid (by rw [← hb.out, HR.out]; simp only [q0, q1, q2, q3, q4]; rfl)
            have Q0 := Lib.hid q0; clear q0
            have Q1 := Lib.hid q1; clear q1
            have Q4 := Lib.hid q4; clear q4
            clear hb HR
            go_enter Try.func25, Try.ntmps25
            go_wp2_with fail
            refine (fits_u64 id 4294967296 _ true Q0).mono ?_
            rintro e w1 ⟨rfl, rfl⟩
            go_wp2_with fail
            refine (fits_i64 ct 16 _ true Q1).mono ?_
            rintro e w1 ⟨rfl, rfl⟩
            go_wp2_with fail
            refine (fits_i64 (s.size : Int) 1000 _ true Q4).mono ?_
            rintro e w1 ⟨rfl, rfl⟩
            go_wp2
            go_ret
            exact ⟨by rw [← HE.out]; rfl, below_alloc _ _⟩

end Go.Proofs.Ytjcgckhheegonaa
