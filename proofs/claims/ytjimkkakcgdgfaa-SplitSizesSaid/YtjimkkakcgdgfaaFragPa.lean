/- A part: the program's Right, Encode, Decode. -/
import Derived.Test.YtjimkkakcgdgfaaFragD
import Derived.Shelf.LaysM
import Derived.Shelf.Strconv.Clone
namespace Go.Proofs.Ytjimkkakcgdgfaa
open Go.RowKit
set_option linter.unusedVariables false
set_option linter.unusedSimpArgs false
set_option maxRecDepth 20000

def fitsB (x m : Int) : Bool := decide (1 ≤ x) && decide (x ≤ m)
theorem rightF_fits (id ix ct : Int) (s : ByteArray) : rightF ⟨id, ix, ct, s⟩ = (fitsB id 4294967296 && (fitsB ct 16 && (decide (0 ≤ ix) && (decide (ix < ct) && fitsB s.size 1000)))) := by
  rw [Bool.eq_iff_iff, rightF_iff]
  simp only [fitsB, Bool.and_eq_true, decide_eq_true_eq]
  constructor <;> intro h <;> refine ⟨?_, ?_⟩ <;> omega

set_option maxHeartbeats 1000000 in
theorem fits_u64 (x m : Int) (w : World) (b : Bool) (hb : Hid (fitsB x m = b)) :
    Calls Try.prog 24 #[.int .u64 x, .int .u64 m] w fun e w' => e = .returned (.bool b) ∧ w' = w := by
  by_cases p0 : 1 ≤ x
  · have d0 : decide (1 ≤ x) = true := by simpa using p0
    by_cases p1 : x ≤ m
    · have d1 : decide (x ≤ m) = true := by simpa using p1
      have HE : Hid (true = b) := Lib.hid (by rw [← hb.out, fitsB, d0, d1]; rfl)
      clear p0 p1 hb
      go_enter Try.func24, Try.ntmps24
      go_wp2
      go_ret
      exact ⟨by rw [← HE.out]; rfl, rfl⟩
    · have d1 : decide (x ≤ m) = false := by simpa using p1
      have HE : Hid (false = b) := Lib.hid (by rw [← hb.out, fitsB, d0, d1]; rfl)
      clear p0 p1 hb
      go_enter Try.func24, Try.ntmps24
      go_wp2
      go_ret
      exact ⟨by rw [← HE.out]; rfl, rfl⟩
  · have d0 : decide (1 ≤ x) = false := by simpa using p0
    have HE : Hid (false = b) := Lib.hid (by rw [← hb.out, fitsB, d0]; rfl)
    clear p0 hb
    go_enter Try.func24, Try.ntmps24
    go_wp2
    go_ret
    exact ⟨by rw [← HE.out]; rfl, rfl⟩

set_option maxHeartbeats 1000000 in
theorem fits_i64 (x m : Int) (w : World) (b : Bool) (hb : Hid (fitsB x m = b)) :
    Calls Try.prog 25 #[.int .i64 x, .int .i64 m] w fun e w' => e = .returned (.bool b) ∧ w' = w := by
  by_cases p0 : 1 ≤ x
  · have d0 : decide (1 ≤ x) = true := by simpa using p0
    by_cases p1 : x ≤ m
    · have d1 : decide (x ≤ m) = true := by simpa using p1
      have HE : Hid (true = b) := Lib.hid (by rw [← hb.out, fitsB, d0, d1]; rfl)
      clear p0 p1 hb
      go_enter Try.func25, Try.ntmps25
      go_wp2
      go_ret
      exact ⟨by rw [← HE.out]; rfl, rfl⟩
    · have d1 : decide (x ≤ m) = false := by simpa using p1
      have HE : Hid (false = b) := Lib.hid (by rw [← hb.out, fitsB, d0, d1]; rfl)
      clear p0 p1 hb
      go_enter Try.func25, Try.ntmps25
      go_wp2
      go_ret
      exact ⟨by rw [← HE.out]; rfl, rfl⟩
  · have d0 : decide (1 ≤ x) = false := by simpa using p0
    have HE : Hid (false = b) := Lib.hid (by rw [← hb.out, fitsB, d0]; rfl)
    clear p0 hb
    go_enter Try.func25, Try.ntmps25
    go_wp2
    go_ret
    exact ⟨by rw [← HE.out]; rfl, rfl⟩

set_option maxHeartbeats 4000000 in
theorem right_f (id ix ct : Int) (s : ByteArray) (w : World) (hs : s.size ≤ maxLen) (b : Bool) (hb : Hid (rightF ⟨id, ix, ct, s⟩ = b)) :
    Calls Try.prog 20 #[.agg #[.int .u64 id, .int .i64 ix, .int .i64 ct, .string s]] w fun e w' => e = .returned (.bool b) ∧ Below w.heap.size w w' := by
  unfold maxLen at hs
  have HR := Lib.hid (rightF_fits id ix ct s)
  cases q0 : fitsB id 4294967296 with
  | false =>
    have HE : Hid (false = b) := Lib.hid (by rw [← hb.out, HR.out]; simp only [q0]; rfl)
    have Q0 := Lib.hid q0; clear q0
    clear hb HR
    go_enter Try.func20, Try.ntmps20
    go_wp2_with fail
    refine (fits_u64 id 4294967296 _ false Q0).mono ?_
    rintro e w1 ⟨rfl, rfl⟩
    go_wp2
    go_ret
    exact ⟨by rw [← HE.out]; rfl, below_alloc _ _⟩
  | true =>
    cases q1 : fitsB ct 16 with
    | false =>
      have HE : Hid (false = b) := Lib.hid (by rw [← hb.out, HR.out]; simp only [q0, q1]; rfl)
      have Q0 := Lib.hid q0; clear q0
      have Q1 := Lib.hid q1; clear q1
      clear hb HR
      go_enter Try.func20, Try.ntmps20
      go_wp2_with fail
      refine (fits_u64 id 4294967296 _ true Q0).mono ?_
      rintro e w1 ⟨rfl, rfl⟩
      go_wp2_with fail
      refine (fits_i64 ct 16 _ false Q1).mono ?_
      rintro e w1 ⟨rfl, rfl⟩
      go_wp2
      go_ret
      exact ⟨by rw [← HE.out]; rfl, below_alloc _ _⟩
    | true =>
      cases q2 : decide (0 ≤ ix) with
      | false =>
        have HE : Hid (false = b) := Lib.hid (by rw [← hb.out, HR.out]; simp only [q0, q1, q2]; rfl)
        have Q0 := Lib.hid q0; clear q0
        have Q1 := Lib.hid q1; clear q1
        clear hb HR
        go_enter Try.func20, Try.ntmps20
        go_wp2_with fail
        refine (fits_u64 id 4294967296 _ true Q0).mono ?_
        rintro e w1 ⟨rfl, rfl⟩
        go_wp2_with fail
        refine (fits_i64 ct 16 _ true Q1).mono ?_
        rintro e w1 ⟨rfl, rfl⟩
        go_wp2
        go_ret
        exact ⟨by rw [← HE.out]; rfl, below_alloc _ _⟩
      | true =>
        cases q3 : decide (ix < ct) with
        | false =>
          have HE : Hid (false = b) := Lib.hid (by rw [← hb.out, HR.out]; simp only [q0, q1, q2, q3]; rfl)
          have Q0 := Lib.hid q0; clear q0
          have Q1 := Lib.hid q1; clear q1
          clear hb HR
          go_enter Try.func20, Try.ntmps20
          go_wp2_with fail
          refine (fits_u64 id 4294967296 _ true Q0).mono ?_
          rintro e w1 ⟨rfl, rfl⟩
          go_wp2_with fail
          refine (fits_i64 ct 16 _ true Q1).mono ?_
          rintro e w1 ⟨rfl, rfl⟩
          go_wp2
          go_ret
          exact ⟨by rw [← HE.out]; rfl, below_alloc _ _⟩
        | true =>
          cases q4 : fitsB (s.size : Int) 1000 with
          | false =>
            have HE : Hid (false = b) := Lib.hid (by rw [← hb.out, HR.out]; simp only [q0, q1, q2, q3, q4]; rfl)
            have Q0 := Lib.hid q0; clear q0
            have Q1 := Lib.hid q1; clear q1
            have Q4 := Lib.hid q4; clear q4
            clear hb HR
            go_enter Try.func20, Try.ntmps20
            go_wp2_with fail
            refine (fits_u64 id 4294967296 _ true Q0).mono ?_
            rintro e w1 ⟨rfl, rfl⟩
            go_wp2_with fail
            refine (fits_i64 ct 16 _ true Q1).mono ?_
            rintro e w1 ⟨rfl, rfl⟩
            go_wp2_with fail
            refine (fits_i64 (s.size : Int) 1000 _ false Q4).mono ?_
            rintro e w1 ⟨rfl, rfl⟩
            go_wp2
            go_ret
            exact ⟨by rw [← HE.out]; rfl, below_alloc _ _⟩
          | true =>
            have HE : Hid (true = b) := Lib.hid (by rw [← hb.out, HR.out]; simp only [q0, q1, q2, q3, q4]; rfl)
            have Q0 := Lib.hid q0; clear q0
            have Q1 := Lib.hid q1; clear q1
            have Q4 := Lib.hid q4; clear q4
            clear hb HR
            go_enter Try.func20, Try.ntmps20
            go_wp2_with fail
            refine (fits_u64 id 4294967296 _ true Q0).mono ?_
            rintro e w1 ⟨rfl, rfl⟩
            go_wp2_with fail
            refine (fits_i64 ct 16 _ true Q1).mono ?_
            rintro e w1 ⟨rfl, rfl⟩
            go_wp2_with fail
            refine (fits_i64 (s.size : Int) 1000 _ true Q4).mono ?_
            rintro e w1 ⟨rfl, rfl⟩
            go_wp2
            go_ret
            exact ⟨by rw [← HE.out]; rfl, below_alloc _ _⟩
theorem put_l (x : Int) (w : World) (h0 : 0 ≤ x) (h1 : x ≤ 18446744073709551615) (t : ByteArray) (ht : Hid (putS x.toNat = t)) :
    Calls Try.prog 34 #[.int .u64 x] w fun e w' => e = .returned (.string t) ∧ Below w.heap.size w w' := by
  have := put_any x.toNat w (by omega)
  rw [show ((x.toNat : Nat) : Int) = x by omega, ht.out] at this
  exact this
set_option maxHeartbeats 4000000 in
theorem penc_no (id ix ct : Int) (s : ByteArray) (w : World) (hs : s.size ≤ maxLen) (hr : Hid (rightF ⟨id, ix, ct, s⟩ = false)) :
    Calls Try.prog 19 #[.agg #[.int .u64 id, .int .i64 ix, .int .i64 ct, .string s]] w fun e w' => e = .returned (.string ⟨#[]⟩) ∧ Below w.heap.size w w' := by
  have HS := Lib.hid hs
  clear hs
  have hb0 := below_alloc w (.cells #[.int .u64 id, .int .i64 ix, .int .i64 ct, .string s] 26)
  have HBB := Lib.hid hb0
  clear hb0
  go_enter Try.func19, Try.ntmps19
  go_wp2_with fail
  refine (right_f id ix ct s _ HS.out false hr).mono ?_
  rintro e w1 ⟨rfl, hb⟩
  have HB1 := Lib.hid (HBB.out.trans (hb.mono HBB.out.size))
  clear hb
  go_wp2
  go_ret
  exact ⟨rfl, HB1.out⟩
set_option maxHeartbeats 8000000 in
set_option maxRecDepth 100000 in
theorem enc_yes (id ix ct : Int) (s : ByteArray) (w : World) (hr : Hid (rightF ⟨id, ix, ct, s⟩ = true)) (A B D t : ByteArray) (HA : Hid (putS id.toNat = A)) (HB : Hid (putS ix.toNat = B)) (HD : Hid (putS ct.toNat = D)) (ht : Hid (((A ++ B) ++ D) ++ s = t)) :
    Calls Try.prog 19 #[.agg #[.int .u64 id, .int .i64 ix, .int .i64 ct, .string s]] w fun e w' => e = .returned (.string t) ∧ Below w.heap.size w w' := by
  have HR : Hid (1 ≤ id ∧ id ≤ 4294967296 ∧ 1 ≤ ct ∧ ct ≤ 16 ∧ 0 ≤ ix ∧ ix < ct ∧ 1 ≤ s.size ∧ s.size ≤ 1000) := Lib.hid (rightF_iff.1 hr.out)
  obtain ⟨r1, r2, r3, r4, r5, r6, r7, r8⟩ := HR.out
  have sA : A.size ≤ 10 := by rw [← HA.out]; exact putS_size _ (by omega)
  have sB : B.size ≤ 10 := by rw [← HB.out]; exact putS_size _ (by omega)
  have sD : D.size ≤ 10 := by rw [← HD.out]; exact putS_size _ (by omega)
  have c1 : (9223372036854775807 < A.size + B.size) = False := by simp; omega
  have c2 : (9223372036854775807 < A.size + B.size + D.size) = False := by simp; omega
  have c3 : (9223372036854775807 < A.size + B.size + D.size + s.size) = False := by simp; omega
  have w5 : IntKind.u64.wrap ix = ix := wrap_u64 (by omega) (by omega)
  have w6 : IntKind.u64.wrap ct = ct := wrap_u64 (by omega) (by omega)
  clear r1 r2 r3 r4 r5 r6 r7 r8 sA sB sD
  have HBB : Hid (Below w.heap.size w (w.alloc (.cells #[.int .u64 id, .int .i64 ix, .int .i64 ct, .string s] 26))) := Lib.hid (below_alloc _ _)
  have HF : Hid (FrAt 26 (w.alloc (.cells #[.int .u64 id, .int .i64 ix, .int .i64 ct, .string s] 26)) w.heap.size ⟨id, ix, ct, s⟩) := Lib.hid (heap_alloc_new w _)
  go_enter Try.func19, Try.ntmps19
  obtain ⟨f0, f1, f2, f3⟩ := HF.out.cells
  go_wp2_with fail
  refine (right_f id ix ct s _ (by have := HR.out; unfold maxLen; omega) true hr).mono ?_
  rintro e w1 ⟨rfl, hb⟩
  have HF1 := Lib.hid (HF.out.below hb)
  replace HBB := Lib.hid (HBB.out.trans (hb.mono HBB.out.size))
  clear hb HF f0 f1 f2 f3
  obtain ⟨q, hq⟩ : ∃ q, q = w.heap.size := ⟨_, rfl⟩
  rw [← hq] at HF1
  rw [← hq]
  clear hq
  go_wp2_with fail
  refine wp_region_held_drew (S := fun u => u.cell? ⟨q, 0, none⟩ = some (.int .u64 id) ∧ u.cell? ⟨q, 1, none⟩ = some (.int .i64 ix) ∧ u.cell? ⟨q, 2, none⟩ = some (.int .i64 ct) ∧ u.cell? ⟨q, 3, none⟩ = some (.string s)) (by kernel_rfl) HF1.out.cells (fun hHeld => ?_)
  replace HBB := Lib.hid (below_drewn HBB.out)
  clear HF1
  refine wpAnyH_take (i := 0) (oi := ?o1) (v := ?v1) ?i1 (by kernel_rfl) (by kernel_rfl) (by kernel_rfl) ?q1 (Or.inl ⟨?w1, ?y1⟩) (by assumption) ?r1
  case' i1 => simp only [List.getElem?_toArray, List.getElem?_cons_succ, List.getElem?_cons_zero]
  case i1 => rfl
  case q1 => exact fun _ _ _ h => h
  case w1 => rfl
  case y1 => (intro w hSw; go_simp) <;> with_reducible rfl
  try simp only [Act.put, List.setIfInBounds_toArray, List.set_cons_zero, List.set_cons_succ]
  refine wpAnyH_take (i := 1) (oi := ?o2) (v := ?v2) ?i2 (by kernel_rfl) (by kernel_rfl) (by kernel_rfl) ?q2 (Or.inl ⟨?w2, ?y2⟩) (by assumption) ?r2
  case' i2 => simp only [List.getElem?_toArray, List.getElem?_cons_succ, List.getElem?_cons_zero]
  case i2 => rfl
  case q2 => exact fun _ _ _ h => h
  case w2 => rfl
  case y2 => (intro w hSw; obtain ⟨k0, k1, k2, k3⟩ := hSw; go_simp) <;> with_reducible rfl
  try simp only [Act.put, List.setIfInBounds_toArray, List.set_cons_zero, List.set_cons_succ]
  refine wpAnyH_take (i := 3) (oi := ?o3) (v := ?v3) ?i3 (by kernel_rfl) (by kernel_rfl) (by kernel_rfl) ?q3 (Or.inl ⟨?w3, ?y3⟩) (by assumption) ?r3
  case' i3 => simp only [List.getElem?_toArray, List.getElem?_cons_succ, List.getElem?_cons_zero]
  case i3 => rfl
  case q3 => exact fun _ _ _ h => h
  case w3 => rfl
  case y3 => (intro w hSw; go_simp) <;> with_reducible rfl
  try simp only [Act.put, List.setIfInBounds_toArray, List.set_cons_zero, List.set_cons_succ]
  refine wpAnyH_take (i := 4) (oi := ?o4) (v := ?v4) ?i4 (by kernel_rfl) (by kernel_rfl) (by kernel_rfl) ?q4 (Or.inl ⟨?w4, ?y4⟩) (by assumption) ?r4
  case' i4 => simp only [List.getElem?_toArray, List.getElem?_cons_succ, List.getElem?_cons_zero]
  case i4 => rfl
  case q4 => exact fun _ _ _ h => h
  case w4 => rfl
  case y4 => (intro w hSw; obtain ⟨k0, k1, k2, k3⟩ := hSw; go_simp) <;> with_reducible rfl
  try simp only [Act.put, List.setIfInBounds_toArray, List.set_cons_zero, List.set_cons_succ]
  refine wpAnyH_take (i := 5) (oi := ?o5) (v := ?v5) ?i5 (by kernel_rfl) (by kernel_rfl) (by kernel_rfl) ?q5 (Or.inl ⟨?w5, ?y5⟩) (by assumption) ?r5
  case' i5 => simp only [List.getElem?_toArray, List.getElem?_cons_succ, List.getElem?_cons_zero]
  case i5 => rfl
  case q5 => exact fun _ _ _ h => h
  case w5 => rfl
  case y5 => (intro w hSw; go_simp) <;> with_reducible rfl
  try simp only [Act.put, List.setIfInBounds_toArray, List.set_cons_zero, List.set_cons_succ]
  refine wpAnyH_take (i := 8) (oi := ?o6) (v := ?v6) ?i6 (by kernel_rfl) (by kernel_rfl) (by kernel_rfl) ?q6 (Or.inl ⟨?w6, ?y6⟩) (by assumption) ?r6
  case' i6 => simp only [List.getElem?_toArray, List.getElem?_cons_succ, List.getElem?_cons_zero]
  case i6 => rfl
  case q6 => exact fun _ _ _ h => h
  case w6 => rfl
  case y6 => (intro w hSw; go_simp) <;> with_reducible rfl
  try simp only [Act.put, List.setIfInBounds_toArray, List.set_cons_zero, List.set_cons_succ]
  refine wpAnyH_take (i := 9) (oi := ?o7) (v := ?v7) ?i7 (by kernel_rfl) (by kernel_rfl) (by kernel_rfl) ?q7 (Or.inl ⟨?w7, ?y7⟩) (by assumption) ?r7
  case' i7 => simp only [List.getElem?_toArray, List.getElem?_cons_succ, List.getElem?_cons_zero]
  case i7 => rfl
  case q7 => exact fun _ _ _ h => h
  case w7 => rfl
  case y7 => (intro w hSw; obtain ⟨k0, k1, k2, k3⟩ := hSw; go_simp) <;> with_reducible rfl
  try simp only [Act.put, List.setIfInBounds_toArray, List.set_cons_zero, List.set_cons_succ]
  refine wpAnyH_take (i := 10) (oi := ?o8) (v := ?v8) ?i8 (by kernel_rfl) (by kernel_rfl) (by kernel_rfl) ?q8 (Or.inl ⟨?w8, ?y8⟩) (by assumption) ?r8
  case' i8 => simp only [List.getElem?_toArray, List.getElem?_cons_succ, List.getElem?_cons_zero]
  case i8 => rfl
  case q8 => exact fun _ _ _ h => h
  case w8 => rfl
  case y8 => (intro w hSw; go_simp) <;> with_reducible rfl
  try simp only [Act.put, List.setIfInBounds_toArray, List.set_cons_zero, List.set_cons_succ]
  refine wpAnyH_take (i := 13) (oi := ?o9) (v := ?v9) ?i9 (by kernel_rfl) (by kernel_rfl) (by kernel_rfl) ?q9 (Or.inl ⟨?w9, ?y9⟩) (by assumption) ?r9
  case' i9 => simp only [List.getElem?_toArray, List.getElem?_cons_succ, List.getElem?_cons_zero]
  case i9 => rfl
  case q9 => exact fun _ _ _ h => h
  case w9 => rfl
  case y9 => (intro w hSw; go_simp) <;> with_reducible rfl
  try simp only [Act.put, List.setIfInBounds_toArray, List.set_cons_zero, List.set_cons_succ]
  refine wpAnyH_take (i := 14) (oi := ?o10) (v := ?v10) ?i10 (by kernel_rfl) (by kernel_rfl) (by kernel_rfl) ?q10 (Or.inl ⟨?w10, ?y10⟩) (by assumption) ?r10
  case' i10 => simp only [List.getElem?_toArray, List.getElem?_cons_succ, List.getElem?_cons_zero]
  case i10 => rfl
  case q10 => exact fun _ _ _ h => h
  case w10 => rfl
  case y10 => (intro w hSw; obtain ⟨k0, k1, k2, k3⟩ := hSw; go_simp) <;> with_reducible rfl
  try simp only [Act.put, List.setIfInBounds_toArray, List.set_cons_zero, List.set_cons_succ]
  refine wpAnyH_ready (rs := [2]) (by kernel_rfl) (by simp) ?_
  refine AllReadyH.cons (o := ?o11) ?i11 (fun K' hK => ?_) AllReadyH.nil
  case' i11 => simp only [List.getElem?_toArray, List.getElem?_cons_succ, List.getElem?_cons_zero]
  case i11 => rfl
  go_simp
  go_at_call 34
  refine (put_l id _ (by have := HR.out; omega) (by have := HR.out; omega) A HA).mono ?_
  rintro e w' ⟨rfl, hb⟩
  have HBB' := Lib.hid (HBB.out.trans (hb.mono HBB.out.size))
  have hHeld' : w'.cell? ⟨q, 0, none⟩ = some (.int .u64 id) ∧ w'.cell? ⟨q, 1, none⟩ = some (.int .i64 ix) ∧ w'.cell? ⟨q, 2, none⟩ = some (.int .i64 ct) ∧ w'.cell? ⟨q, 3, none⟩ = some (.string s) := ⟨(hb.cell (block_lt_of_cell hHeld.1)).trans hHeld.1, (hb.cell (block_lt_of_cell hHeld.2.1)).trans hHeld.2.1, (hb.cell (block_lt_of_cell hHeld.2.2.1)).trans hHeld.2.2.1, (hb.cell (block_lt_of_cell hHeld.2.2.2)).trans hHeld.2.2.2⟩
  clear HBB hb
  have HBB := HBB'
  clear HBB'
  go_wp2_with fail
  refine hK.out _ _ hHeld' (fun _ => ?_)
  clear hK K' hHeld
  have hHeld := hHeld'
  clear hHeld'
  try simp only [Act.put, List.setIfInBounds_toArray, List.set_cons_zero, List.set_cons_succ]
  refine wpAnyH_ready (rs := [6]) (by kernel_rfl) (by simp) ?_
  refine AllReadyH.cons (o := ?o12) ?i12 (fun K' hK => ?_) AllReadyH.nil
  case' i12 => simp only [List.getElem?_toArray, List.getElem?_cons_succ, List.getElem?_cons_zero]
  case i12 => rfl
  go_simp
  go_at_call 34
  refine (put_l ix _ (by have := HR.out; omega) (by have := HR.out; omega) B HB).mono ?_
  rintro e w' ⟨rfl, hb⟩
  have HBB' := Lib.hid (HBB.out.trans (hb.mono HBB.out.size))
  have hHeld' : w'.cell? ⟨q, 0, none⟩ = some (.int .u64 id) ∧ w'.cell? ⟨q, 1, none⟩ = some (.int .i64 ix) ∧ w'.cell? ⟨q, 2, none⟩ = some (.int .i64 ct) ∧ w'.cell? ⟨q, 3, none⟩ = some (.string s) := ⟨(hb.cell (block_lt_of_cell hHeld.1)).trans hHeld.1, (hb.cell (block_lt_of_cell hHeld.2.1)).trans hHeld.2.1, (hb.cell (block_lt_of_cell hHeld.2.2.1)).trans hHeld.2.2.1, (hb.cell (block_lt_of_cell hHeld.2.2.2)).trans hHeld.2.2.2⟩
  clear HBB hb
  have HBB := HBB'
  clear HBB'
  go_wp2_with fail
  refine hK.out _ _ hHeld' (fun _ => ?_)
  clear hK K' hHeld
  have hHeld := hHeld'
  clear hHeld'
  try simp only [Act.put, List.setIfInBounds_toArray, List.set_cons_zero, List.set_cons_succ]
  refine wpAnyH_take (i := 7) (oi := ?o13) (v := ?v13) ?i13 (by kernel_rfl) (by kernel_rfl) (by kernel_rfl) ?q13 (Or.inl ⟨?w13, ?y13⟩) (by assumption) ?r13
  case' i13 => simp only [List.getElem?_toArray, List.getElem?_cons_succ, List.getElem?_cons_zero]
  case i13 => rfl
  case q13 => exact fun _ _ _ h => h
  case w13 => rfl
  case y13 => (intro w hSw; go_simp) <;> with_reducible rfl
  try simp only [Act.put, List.setIfInBounds_toArray, List.set_cons_zero, List.set_cons_succ]
  refine wpAnyH_ready (rs := [11]) (by kernel_rfl) (by simp) ?_
  refine AllReadyH.cons (o := ?o14) ?i14 (fun K' hK => ?_) AllReadyH.nil
  case' i14 => simp only [List.getElem?_toArray, List.getElem?_cons_succ, List.getElem?_cons_zero]
  case i14 => rfl
  go_simp
  go_at_call 34
  refine (put_l ct _ (by have := HR.out; omega) (by have := HR.out; omega) D HD).mono ?_
  rintro e w' ⟨rfl, hb⟩
  have HBB' := Lib.hid (HBB.out.trans (hb.mono HBB.out.size))
  have hHeld' : w'.cell? ⟨q, 0, none⟩ = some (.int .u64 id) ∧ w'.cell? ⟨q, 1, none⟩ = some (.int .i64 ix) ∧ w'.cell? ⟨q, 2, none⟩ = some (.int .i64 ct) ∧ w'.cell? ⟨q, 3, none⟩ = some (.string s) := ⟨(hb.cell (block_lt_of_cell hHeld.1)).trans hHeld.1, (hb.cell (block_lt_of_cell hHeld.2.1)).trans hHeld.2.1, (hb.cell (block_lt_of_cell hHeld.2.2.1)).trans hHeld.2.2.1, (hb.cell (block_lt_of_cell hHeld.2.2.2)).trans hHeld.2.2.2⟩
  clear HBB hb
  have HBB := HBB'
  clear HBB'
  go_wp2_with fail
  refine hK.out _ _ hHeld' (fun _ => ?_)
  clear hK K' hHeld
  have hHeld := hHeld'
  clear hHeld'
  try simp only [Act.put, List.setIfInBounds_toArray, List.set_cons_zero, List.set_cons_succ]
  refine wpAnyH_take (i := 12) (oi := ?o15) (v := ?v15) ?i15 (by kernel_rfl) (by kernel_rfl) (by kernel_rfl) ?q15 (Or.inl ⟨?w15, ?y15⟩) (by assumption) ?r15
  case' i15 => simp only [List.getElem?_toArray, List.getElem?_cons_succ, List.getElem?_cons_zero]
  case i15 => rfl
  case q15 => exact fun _ _ _ h => h
  case w15 => rfl
  case y15 => (intro w hSw; go_simp) <;> with_reducible rfl
  try simp only [Act.put, List.setIfInBounds_toArray, List.set_cons_zero, List.set_cons_succ]
  refine wpAnyH_take (i := 15) (oi := ?o16) (v := ?v16) ?i16 (by kernel_rfl) (by kernel_rfl) (by kernel_rfl) ?q16 (Or.inl ⟨?w16, ?y16⟩) (by assumption) ?r16
  case' i16 => simp only [List.getElem?_toArray, List.getElem?_cons_succ, List.getElem?_cons_zero]
  case i16 => rfl
  case q16 => exact fun _ _ _ h => h
  case w16 => rfl
  case y16 => (intro w hSw; go_simp) <;> with_reducible rfl
  try simp only [Act.put, List.setIfInBounds_toArray, List.set_cons_zero, List.set_cons_succ]
  refine wpAnyH_take (i := 16) (oi := ?o17) (v := ?v17) ?i17 (by kernel_rfl) (by kernel_rfl) (by kernel_rfl) ?q17 (Or.inl ⟨?w17, ?y17⟩) (by assumption) ?r17
  case' i17 => simp only [List.getElem?_toArray, List.getElem?_cons_succ, List.getElem?_cons_zero]
  case i17 => rfl
  case q17 => exact fun _ _ _ h => h
  case w17 => rfl
  case y17 => (intro w hSw; go_simp) <;> with_reducible rfl
  try simp only [Act.put, List.setIfInBounds_toArray, List.set_cons_zero, List.set_cons_succ]
  refine wpAnyH_done (by kernel_rfl) ?_ _
  go_wp2
  go_ret
  exact ⟨by rw [← ht.out]; rfl, HBB.out⟩
theorem enc_f (f : Fr) (w : World) (hf : f.Wf) (t : ByteArray) (ht : Hid (encF f = t)) :
    Calls Try.prog 19 #[f.v] w fun e w' => e = .returned (.string t) ∧ Below w.heap.size w w' := by
  obtain ⟨id, ix, ct, s⟩ := f
  have h := ht.out
  unfold encF at h
  cases hr : rightF ⟨id, ix, ct, s⟩ with
  | false =>
    rw [hr, if_neg (by decide)] at h
    subst h
    exact penc_no id ix ct s w hf.s (Lib.hid hr)
  | true =>
    rw [hr, if_pos rfl] at h
    exact enc_yes id ix ct s w (Lib.hid hr) _ _ _ t (Lib.hid rfl) (Lib.hid rfl) (Lib.hid rfl) (Lib.hid h)

end Go.Proofs.Ytjimkkakcgdgfaa
