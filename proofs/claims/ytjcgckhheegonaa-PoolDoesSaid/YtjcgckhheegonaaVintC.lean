/- The walk of Put, for every number of 64 bits. -/
import Derived.Test.YtjcgckhheegonaaVintB
import Derived.Test.YtjcgckhheegonaaVintS
import Derived.Lib.ItoaNum
namespace Go.Proofs.Ytjcgckhheegonaa
open Go.RowKit
set_option linter.unusedVariables false

def rowL (c : Nat) (l : List UInt8) : List UInt8 := List.replicate (c - l.length) 0 ++ l
def rowC (c : Nat) (l : List UInt8) : Array Value := ((rowL c l).map fun x => Value.int .u8 (x.toNat : Int)).toArray

def St (B c : Nat) (w0 : World) (m : Nat) (l : List UInt8) (w : World) : Prop :=
  w.heap[B]? = some (.cells (rowC c l) 5 (0, 0)) ∧ w.heap[B + 1]? = some (.cells #[.slice (some ⟨B, 0, none⟩) c c] 50 (0, 0)) ∧
  w.heap[B + 1 + 1]? = some (.cells #[.int .u64 m] 32 (0, 0)) ∧ Below B w0 w

theorem rowC_set (c p : Nat) (l : List UInt8) (x : UInt8) (h : l.length + 1 + p = c) : (rowC c l).setIfInBounds p (.int .u8 (x.toNat : Int)) = rowC c (x :: l) := by
  unfold rowC rowL
  apply Array.ext'
  rw [Array.toList_setIfInBounds]
  have e1 : c - l.length = p + 1 := by omega
  have e2 : c - (x :: l).length = p := by simp; omega
  rw [e1, e2]
  simp [List.replicate_succ', List.append_assoc]

theorem rowC_some (c p : Nat) (l : List UInt8) (h : p < c) (hl : l.length ≤ c) : ∃ v, (rowC c l)[p]? = some v := by
  have : p < (rowC c l).size := by simp [rowC, rowL]; omega
  exact ⟨_, Array.getElem?_eq_getElem this⟩


theorem hi_ge (k : Nat) : ∀ n, 128 ^ k ≤ n → k + 1 ≤ (hi n).length := by
  induction k with
  | zero => intro n h; rw [hi_step n (by simp at h; omega)]; simp
  | succ k ih =>
    intro n h
    have hp : 0 < 128 ^ k := Nat.pow_pos (by omega)
    rw [Nat.pow_succ] at h
    rw [hi_step n (by omega)]
    have := ih (n / 128) (by omega)
    simp; omega

/-- How many bits, and how many digits. -/
theorem put_count (n : Nat) (h : n < 2 ^ 64) : max 1 (((Lib.bitLen n : Int) + 7 - 1) / 7) = ((put n).length : Int) ∧ Lib.bitLen n ≤ 64 := by
  by_cases h0 : n = 0
  · subst h0
    simp [Lib.bitLen, Lib.bitLenAux_zero, put, hi_zero]
    rfl
  · obtain ⟨a, b, c⟩ := Lib.bitLenAux_bounds 64 n h h0
    have hL : Lib.bitLen n ≤ 64 := Lib.bitLen_le n 64 (Nat.le_refl _) h
    refine ⟨?_, hL⟩
    unfold Lib.bitLen at hL ⊢
    generalize Lib.bitLenAux 64 n = L at a b c hL ⊢
    obtain ⟨q, hq⟩ : ∃ q, q = (L - 1) / 7 := ⟨_, rfl⟩
    have e : max 1 (((L : Int) + 7 - 1) / 7) = (q : Int) + 1 := by omega
    rw [e]
    have h1 : 128 ^ q ≤ n := by
      have : (128 : Nat) ^ q = 2 ^ (7 * q) := by rw [Nat.pow_mul]
      rw [this]
      exact Nat.le_trans (Nat.pow_le_pow_right (by omega) (by omega)) b
    have h2 : n < 128 ^ (q + 1) := by
      have : (128 : Nat) ^ (q + 1) = 2 ^ (7 * (q + 1)) := by rw [Nat.pow_mul]
      rw [this]
      exact Nat.lt_of_lt_of_le c (Nat.pow_le_pow_right (by omega) (by omega))
    have h3 := hi_le q (n / 128) (by rw [Nat.pow_succ] at h2; omega)
    have h4 : q ≤ (hi (n / 128)).length := by
      cases q with
      | zero => omega
      | succ q => exact hi_ge q (n / 128) (by rw [Nat.pow_succ] at h1; omega)
    simp [put]; omega

/-- What the loop has put behind i rounds. -/
def dg (n : Nat) : Nat → List UInt8
  | 0 => []
  | i + 1 => UInt8.ofNat (128 + n / 128 ^ i % 128) :: dg n i
theorem dg_length (n i : Nat) : (dg n i).length = i := by induction i with
  | zero => rfl
  | succ i ih => simp [dg, ih]
theorem dg_last (n : Nat) : ∀ i, dg n (i + 1) = dg (n / 128) i ++ [UInt8.ofNat (128 + n % 128)] := by
  intro i
  induction i with
  | zero => simp [dg]
  | succ i ih => rw [dg, ih, dg, Nat.pow_succ, Nat.div_div_eq_div_mul, Nat.mul_comm]; simp
theorem dg_hi : ∀ k n, (hi n).length = k → hi n = dg n k := by
  intro k
  induction k with
  | zero => intro n h; simpa [dg] using h
  | succ k ih =>
    intro n h
    by_cases h0 : n = 0
    · subst h0; simp [hi_zero] at h
    · rw [hi_step n h0] at h ⊢
      rw [dg_last, ih (n / 128) (by simpa using h)]
theorem put_dg (n c : Nat) (hc : c + 1 = (put n).length) : put n = dg (n / 128) c ++ [UInt8.ofNat (n % 128)] := by
  rw [put] at hc ⊢
  rw [dg_hi c (n / 128) (by simp at hc; omega)]

def LenPost (c : Nat) (w : World) (e : Ending) (w' : World) : Prop := ∃ L : Nat, e = .returned (.int .i64 L) ∧ L ≤ 64 ∧ max 1 (((L : Int) + 7 - 1) / 7) = (c : Int) ∧ w = w'

theorem info5 : (Try.prog.info? 5).map (fun i => (i.zero, i.size, i.bytes)) = some (some (.int .u8 0), 1, 1) := by kernel_rfl
theorem made (c : Nat) : madeCells (Value.int .u8 0).cells (c * 1) = rowC c [] := by
  unfold madeCells rowC rowL
  apply Array.ext
  · simp
  · intro i h1 h2
    simp [Value.cells, Nat.mod_one]
theorem make_row (w : World) (c : Nat) (hc : c ≤ 10) : (Instr.makeSlice 50 (.int .i64 c) (.int .i64 c)).run Try.prog w = .ok (.slice (some ⟨w.heap.size, 0, none⟩) c c) (w.alloc (.cells (rowC c []) 5)) := by
  obtain ⟨i0, hi, hz0, hz1, hz2⟩ := info_parts info5
  have := run_make (P := Try.prog) w 50 5 i0 (.int .u8 0) Try.underlying50 hi hz0 .i64 .i64 c c (by omega) (by omega) (by rw [hz2]; omega) (by omega)
  rw [hz1] at this
  rw [this, Int.toNat_natCast, made]

theorem size_alloc (w : World) (o : Obj) : (w.alloc o).heap.size = w.heap.size + 1 := by
  have := heap_alloc_new w o
  show (w.heap.push o).size = _
  simp
theorem St_start (w : World) (c n : Nat) : St w.heap.size c w n [] (((w.alloc (.cells (rowC c []) 5)).alloc (.cells #[.slice (some ⟨w.heap.size, 0, none⟩) c c] 50)).alloc (.cells #[.int .u64 n] 32)) := by
  refine ⟨?_, ?_, ?_, ?_⟩
  · rw [heap_alloc_old (h := by rw [size_alloc, size_alloc]; omega), heap_alloc_old (h := by rw [size_alloc]; omega), heap_alloc_new]
  · rw [heap_alloc_old (h := by rw [size_alloc, size_alloc]; omega), ← size_alloc w (.cells (rowC c []) 5), heap_alloc_new]
  · rw [← size_alloc w (.cells (rowC c []) 5), ← size_alloc (w.alloc (.cells (rowC c []) 5)) (.cells #[.slice (some ⟨w.heap.size, 0, none⟩) c c] 50), heap_alloc_new]
  · exact (((Below.refl _ _).alloc (Nat.le_refl _) _).alloc (by rw [size_alloc]; omega) _).alloc (by rw [size_alloc, size_alloc]; omega) _

/-- The last byte of the row, and the text behind it. -/
theorem St_end (w w0 : World) (c n : Nat) (h : St w0.heap.size c w0 (n / 128 ^ c) (dg n c) w) (hc1 : 1 ≤ c) (hc : c = (put n).length) :
    w.cell? ⟨w0.heap.size, c - 1, none⟩ = some (.int .u8 ((n : Int) % 128 + 128)) ∧ w.frozen? ⟨w0.heap.size, c - 1, none⟩ = false ∧ w.cell? ⟨w0.heap.size + 1, 0, none⟩ = some (.slice (some ⟨w0.heap.size, 0, none⟩) c c) ∧
    (∀ W, W = w.setCell ⟨w0.heap.size, c - 1, none⟩ (.int .u8 ((n : Int) % 128)) → (convert 50 9 (.slice (some ⟨w0.heap.size, 0, none⟩) c c)).run Try.prog W = .ok (.string (putS n)) W ∧ Below w0.heap.size w0 W) := by
  obtain ⟨s1, s2, s3, s4⟩ := h
  obtain ⟨k, rfl⟩ : ∃ k, c = k + 1 := ⟨c - 1, by omega⟩
  have hrow : rowC (k + 1) (dg n (k + 1)) = ((dg (n / 128) k).map fun x => Value.int .u8 (x.toNat : Int)).toArray ++ #[Value.int .u8 ((n : Int) % 128 + 128)] := by
    unfold rowC rowL
    rw [dg_length, dg_last]
    simp
    rw [show ((128 : Int) + (n : Int) % 128) % 256 = (n : Int) % 128 + 128 from by omega]
  rw [hrow] at s1
  have hl : (dg (n / 128) k).length = k := dg_length _ _
  refine ⟨?_, frozen_of_row w _ _ _ _ s1, cell_of_one s2, ?_⟩
  · rw [cell_of_row w _ _ _ _ _ s1]; simp [hl]
  · rintro W rfl
    refine ⟨?_, s4.setCell (by simp) _⟩
    have e0 : ∀ x : List UInt8, x = put n → (⟨x.toArray⟩ : ByteArray) = putS n := by rintro x rfl; rfl
    rw [← e0 _ (put_dg n k hc).symm]
    refine conv_row (k + 1) _ (by simp [hl]) ?_
    intro j hj
    have t1 := heap_setCell_same w _ (k + 1 - 1) _ _ (.int .u8 ((n : Int) % 128)) s1
    rw [cell_of_row _ _ j _ _ _ t1]
    have hj' : j < k + 1 := by simpa [hl] using hj
    by_cases hjk : j = k
    · subst hjk
      simp [hl, Array.setIfInBounds]
      omega
    · have hjk' : j < k := by omega
      simp [hl, Array.setIfInBounds]
      rw [List.getElem?_append_left (by simpa [hl] using hjk'), List.getElem?_append_left (by simpa [hl] using hjk')]
      simp [List.getElem?_eq_getElem (show j < (dg (n / 128) k).length by omega)]

end Go.Proofs.Ytjcgckhheegonaa
