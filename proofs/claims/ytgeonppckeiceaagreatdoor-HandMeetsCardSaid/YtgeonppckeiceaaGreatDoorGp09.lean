/- The walk of Put, for every number of 64 bits. -/
/- The walks of PutText and GetText, and of the document's, for every text of at most a million bytes and every place and bound. -/
/- Messages: what a message is, the fields of each kind, what may stand in each. -/
import Derived.Test.YtgeonppckeiceaaGreatDoorGp08
import Derived.Lib.ItoaNum
namespace Go.Proofs.YtgeonppckeiceaaGreatDoor.Ms
open Go.RowKit
set_option linter.unusedVariables false

def rowL (c : Nat) (l : List UInt8) : List UInt8 := List.replicate (c - l.length) 0 ++ l
def rowC (c : Nat) (l : List UInt8) : Array Value := ((rowL c l).map fun x => Value.int .u8 (x.toNat : Int)).toArray

def St (B c : Nat) (w0 : World) (m : Nat) (l : List UInt8) (w : World) : Prop :=
  w.heap[B]? = some (.cells (rowC c l) 5 (0, 0)) ∧ w.heap[B + 1]? = some (.cells #[.slice (some ⟨B, 0, none⟩) c c] 89 (0, 0)) ∧
  w.heap[B + 1 + 1]? = some (.cells #[.int .u64 m] 23 (0, 0)) ∧ Below B w0 w

theorem rowC_set (c p : Nat) (l : List UInt8) (x : UInt8) (h : l.length + 1 + p = c) : (rowC c l).setIfInBounds p (.int .u8 (x.toNat : Int)) = rowC c (x :: l) := by
  unfold rowC rowL
  apply Array.ext'
  rw [Array.toList_setIfInBounds]
  have e1 : c - l.length = p + 1 := by omega
  have e2 : c - (x :: l).length = p := by simp; omega
  rw [e1, e2]
  simp [List.replicate_succ', List.append_assoc]

theorem rowC_some (c p : Nat) (l : List UInt8) (h : p < c) (hl : l.length ≤ c) : ∃ v, (rowC c l)[p]? = some v := by
  have : p < (rowC c l).size := by simp [rowC, rowL]; omega
  exact ⟨_, Array.getElem?_eq_getElem this⟩

set_option maxHeartbeats 400000 in
theorem step_any (B c p m : Nat) (l : List UInt8) (w0 w : World) (hs : St B c w0 m l w) (hl : l.length + 1 + p = c) (hc : c ≤ 10) (hm : (m : Int) ≤ 18446744073709551615) :
    Calls Tryz.prog 175 #[.int .i64 p, .pointer (some ⟨B + 1 + 1, 0, none⟩), .pointer (some ⟨B + 1, 0, none⟩)] w fun e w' => e = .returned (.tuple #[]) ∧ St B c w0 (m / 128) (UInt8.ofNat (128 + m % 128) :: l) w' := by
  have HS := Lib.hid hs
  obtain ⟨s1, s2, s3, s4⟩ := hs
  have c2 := cell_of_one s2
  have c3 := cell_of_one s3
  have f3 := free_of_one s3
  obtain ⟨v, hv⟩ := rowC_some c p l (by omega) (by omega)
  have c1 : w.cell? ⟨B, p, none⟩ = some v := by rw [cell_of_row w B p _ _ _ s1]; exact hv
  have f1 : w.frozen? ⟨B, p, none⟩ = false := frozen_of_row w B p _ _ s1
  have hp : (p : Int) < (c : Int) := by omega
  have Hl := Lib.hid hl
  clear s1 s2 s3 s4 hl hv
  go_enter Tryz.func175, Tryz.ntmps175
  go_wp2
  go_end0
  refine ⟨rfl, ?_⟩
  obtain ⟨s1, s2, s3, s4⟩ := HS.out
  have hl := Hl.out
  have t1 := heap_setCell_same w B p _ _ (.int .u8 ((m : Int) % 128 + 128)) s1
  have e1 : Value.int .u8 ((m : Int) % 128 + 128) = .int .u8 ((UInt8.ofNat (128 + m % 128)).toNat : Int) := by
    rw [UInt8.toNat_ofNat', show (((128 + m % 128) % 2 ^ 8 : Nat) : Int) = (m : Int) % 128 + 128 from by omega]
  rw [e1, rowC_set c p l _ hl] at t1
  refine ⟨?_, ?_, ?_, ?_⟩
  · rw [heap_setCell_other _ _ _ _ (by dsimp only; omega), e1]; exact t1
  · rw [heap_setCell_other _ _ _ _ (by dsimp only; omega), heap_setCell_other _ _ _ _ (by dsimp only; omega)]; exact s2
  · rw [one_setCell (v := .int .u64 m) (t := 23)]
    · rw [show ((m : Int) / 128) = ((m / 128 : Nat) : Int) from by omega]
    · rw [heap_setCell_other _ _ _ _ (by dsimp only; omega)]; exact s3
  · exact (s4.setCell (Nat.le_refl _) _).setCell (by dsimp only; omega) _

theorem hi_ge (k : Nat) : ∀ n, 128 ^ k ≤ n → k + 1 ≤ (hi n).length := by
  induction k with
  | zero => intro n h; rw [hi_step n (by simp at h; omega)]; simp
  | succ k ih =>
    intro n h
    have hp : 0 < 128 ^ k := Nat.pow_pos (by omega)
    rw [Nat.pow_succ] at h
    rw [hi_step n (by omega)]
    have := ih (n / 128) (by omega)
    simp; omega

/-- How many bits, and how many digits. -/
theorem put_count (n : Nat) (h : n < 2 ^ 64) : max 1 (((Lib.bitLen n : Int) + 7 - 1) / 7) = ((put n).length : Int) ∧ Lib.bitLen n ≤ 64 := by
  by_cases h0 : n = 0
  · subst h0
    simp [Lib.bitLen, Lib.bitLenAux_zero, put, hi_zero]
    rfl
  · obtain ⟨a, b, c⟩ := Lib.bitLenAux_bounds 64 n h h0
    have hL : Lib.bitLen n ≤ 64 := Lib.bitLen_le n 64 (Nat.le_refl _) h
    refine ⟨?_, hL⟩
    unfold Lib.bitLen at hL ⊢
    generalize Lib.bitLenAux 64 n = L at a b c hL ⊢
    obtain ⟨q, hq⟩ : ∃ q, q = (L - 1) / 7 := ⟨_, rfl⟩
    have e : max 1 (((L : Int) + 7 - 1) / 7) = (q : Int) + 1 := by omega
    rw [e]
    have h1 : 128 ^ q ≤ n := by
      have : (128 : Nat) ^ q = 2 ^ (7 * q) := by rw [Nat.pow_mul]
      rw [this]
      exact Nat.le_trans (Nat.pow_le_pow_right (by omega) (by omega)) b
    have h2 : n < 128 ^ (q + 1) := by
      have : (128 : Nat) ^ (q + 1) = 2 ^ (7 * (q + 1)) := by rw [Nat.pow_mul]
      rw [this]
      exact Nat.lt_of_lt_of_le c (Nat.pow_le_pow_right (by omega) (by omega))
    have h3 := hi_le q (n / 128) (by rw [Nat.pow_succ] at h2; omega)
    have h4 : q ≤ (hi (n / 128)).length := by
      cases q with
      | zero => omega
      | succ q => exact hi_ge q (n / 128) (by rw [Nat.pow_succ] at h1; omega)
    simp [put]; omega

/-- What the loop has put behind i rounds. -/
def dg (n : Nat) : Nat → List UInt8
  | 0 => []
  | i + 1 => UInt8.ofNat (128 + n / 128 ^ i % 128) :: dg n i
theorem dg_length (n i : Nat) : (dg n i).length = i := by induction i with
  | zero => rfl
  | succ i ih => simp [dg, ih]
theorem dg_last (n : Nat) : ∀ i, dg n (i + 1) = dg (n / 128) i ++ [UInt8.ofNat (128 + n % 128)] := by
  intro i
  induction i with
  | zero => simp [dg]
  | succ i ih => rw [dg, ih, dg, Nat.pow_succ, Nat.div_div_eq_div_mul, Nat.mul_comm]; simp
theorem dg_hi : ∀ k n, (hi n).length = k → hi n = dg n k := by
  intro k
  induction k with
  | zero => intro n h; simpa [dg] using h
  | succ k ih =>
    intro n h
    by_cases h0 : n = 0
    · subst h0; simp [hi_zero] at h
    · rw [hi_step n h0] at h ⊢
      rw [dg_last, ih (n / 128) (by simpa using h)]
theorem put_dg (n c : Nat) (hc : c + 1 = (put n).length) : put n = dg (n / 128) c ++ [UInt8.ofNat (n % 128)] := by
  rw [put] at hc ⊢
  rw [dg_hi c (n / 128) (by simp at hc; omega)]

def LenPost (c : Nat) (w : World) (e : Ending) (w' : World) : Prop := ∃ L : Nat, e = .returned (.int .i64 L) ∧ L ≤ 64 ∧ max 1 (((L : Int) + 7 - 1) / 7) = (c : Int) ∧ w = w'
theorem len_any (n : Nat) (w : World) (h : (n : Int) ≤ 18446744073709551615) : Calls Tryz.prog 174 #[.int .u64 n] w (LenPost (put n).length w) :=
  (Tryz.bits_Len64 n w (by omega) h).mono fun e w' ⟨he, hw⟩ => ⟨Lib.bitLen n, by simpa using he, (put_count n (by omega)).2, (put_count n (by omega)).1, hw.symm⟩

theorem info5 : (Tryz.prog.info? 5).map (fun i => (i.zero, i.size, i.bytes)) = some (some (.int .u8 0), 1, 1) := by kernel_rfl
theorem made (c : Nat) : madeCells (Value.int .u8 0).cells (c * 1) = rowC c [] := by
  unfold madeCells rowC rowL
  apply Array.ext
  · simp
  · intro i h1 h2
    simp [Value.cells, Nat.mod_one]
theorem make_row (w : World) (c : Nat) (hc : c ≤ 10) : (Instr.makeSlice 89 (.int .i64 c) (.int .i64 c)).run Tryz.prog w = .ok (.slice (some ⟨w.heap.size, 0, none⟩) c c) (w.alloc (.cells (rowC c []) 5)) := by
  obtain ⟨i0, hi, hz0, hz1, hz2⟩ := info_parts info5
  have := run_make (P := Tryz.prog) w 89 5 i0 (.int .u8 0) Tryz.underlying89 hi hz0 .i64 .i64 c c (by omega) (by omega) (by rw [hz2]; omega) (by omega)
  rw [hz1] at this
  rw [this, Int.toNat_natCast, made]

theorem size_alloc (w : World) (o : Obj) : (w.alloc o).heap.size = w.heap.size + 1 := by
  have := heap_alloc_new w o
  show (w.heap.push o).size = _
  simp
theorem St_start (w : World) (c n : Nat) : St w.heap.size c w n [] (((w.alloc (.cells (rowC c []) 5)).alloc (.cells #[.slice (some ⟨w.heap.size, 0, none⟩) c c] 89)).alloc (.cells #[.int .u64 n] 23)) := by
  refine ⟨?_, ?_, ?_, ?_⟩
  · rw [heap_alloc_old (h := by rw [size_alloc, size_alloc]; omega), heap_alloc_old (h := by rw [size_alloc]; omega), heap_alloc_new]
  · rw [heap_alloc_old (h := by rw [size_alloc, size_alloc]; omega), ← size_alloc w (.cells (rowC c []) 5), heap_alloc_new]
  · rw [← size_alloc w (.cells (rowC c []) 5), ← size_alloc (w.alloc (.cells (rowC c []) 5)) (.cells #[.slice (some ⟨w.heap.size, 0, none⟩) c c] 89), heap_alloc_new]
  · exact (((Below.refl _ _).alloc (Nat.le_refl _) _).alloc (by rw [size_alloc]; omega) _).alloc (by rw [size_alloc, size_alloc]; omega) _

/-- The last byte of the row, and the text behind it. -/
theorem St_end (w w0 : World) (c n : Nat) (h : St w0.heap.size c w0 (n / 128 ^ c) (dg n c) w) (hc1 : 1 ≤ c) (hc : c = (put n).length) :
    w.cell? ⟨w0.heap.size, c - 1, none⟩ = some (.int .u8 ((n : Int) % 128 + 128)) ∧ w.frozen? ⟨w0.heap.size, c - 1, none⟩ = false ∧ w.cell? ⟨w0.heap.size + 1, 0, none⟩ = some (.slice (some ⟨w0.heap.size, 0, none⟩) c c) ∧
    (∀ W, W = w.setCell ⟨w0.heap.size, c - 1, none⟩ (.int .u8 ((n : Int) % 128)) → (convert 89 9 (.slice (some ⟨w0.heap.size, 0, none⟩) c c)).run Tryz.prog W = .ok (.string (putS n)) W ∧ Below w0.heap.size w0 W) := by
  obtain ⟨s1, s2, s3, s4⟩ := h
  obtain ⟨k, rfl⟩ : ∃ k, c = k + 1 := ⟨c - 1, by omega⟩
  have hrow : rowC (k + 1) (dg n (k + 1)) = ((dg (n / 128) k).map fun x => Value.int .u8 (x.toNat : Int)).toArray ++ #[Value.int .u8 ((n : Int) % 128 + 128)] := by
    unfold rowC rowL
    rw [dg_length, dg_last]
    simp
    rw [show ((128 : Int) + (n : Int) % 128) % 256 = (n : Int) % 128 + 128 from by omega]
  rw [hrow] at s1
  have hl : (dg (n / 128) k).length = k := dg_length _ _
  refine ⟨?_, frozen_of_row w _ _ _ _ s1, cell_of_one s2, ?_⟩
  · rw [cell_of_row w _ _ _ _ _ s1]; simp [hl]
  · rintro W rfl
    refine ⟨?_, s4.setCell (by simp) _⟩
    have e0 : ∀ x : List UInt8, x = put n → (⟨x.toArray⟩ : ByteArray) = putS n := by rintro x rfl; rfl
    rw [← e0 _ (put_dg n k hc).symm]
    refine conv_row (k + 1) _ (by simp [hl]) ?_
    intro j hj
    have t1 := heap_setCell_same w _ (k + 1 - 1) _ _ (.int .u8 ((n : Int) % 128)) s1
    rw [cell_of_row _ _ j _ _ _ t1]
    have hj' : j < k + 1 := by simpa [hl] using hj
    by_cases hjk : j = k
    · subst hjk
      simp [hl, Array.setIfInBounds]
      omega
    · have hjk' : j < k := by omega
      simp [hl, Array.setIfInBounds]
      rw [List.getElem?_append_left (by simpa [hl] using hjk'), List.getElem?_append_left (by simpa [hl] using hjk')]
      simp [List.getElem?_eq_getElem (show j < (dg (n / 128) k).length by omega)]

set_option maxHeartbeats 1000000 in
theorem put_any (n : Nat) (w : World) (h : (n : Int) ≤ 18446744073709551615) :
    Calls Tryz.prog 124 #[.int .u64 n] w fun e w' => e = .returned (.string (putS n)) ∧ Below w.heap.size w w' := by
  have hlen := len_any n
  have hP := Lib.hid (put_le n h)
  have hQ := Lib.hid (put_length_pos n)
  obtain ⟨c, hc⟩ : ∃ c, c = (put n).length := ⟨_, rfl⟩
  rw [← hc] at hlen hP hQ
  have hc10 : c ≤ 10 := hP.out
  have hc1 : 1 ≤ c := hQ.out
  have HC := Lib.hid hc
  have HL := Lib.hid hlen
  have hmk := fun w => make_row w c hc10
  clear hlen hc hP hQ
  go_enter Tryz.func124, Tryz.ntmps124
  go_wp2_with (go_at_call 174; refine (HL.out _ h).mono ?_; rintro e w' ⟨L, rfl, hL2, hmx, rfl⟩)
  clear hmx hmk hL2
  go_loopw [19] (fun i wr => ∃ k : Nat, k ≤ c ∧ i = .int .i64 k ∧ Hid (St w.heap.size c w (n / 128 ^ k) (dg n k) wr)) (fun i _ => c - (intOf i).toNat)
  case atStart =>
    exact ⟨0, Nat.zero_le _, rfl, by simpa [dg] using Lib.hid (St_start w c n)⟩
  case round =>
    obtain ⟨k, hk, rfl, HR⟩ := hrel
    by_cases hlt : k < c
    · have hcall : ∀ (p : Nat), (dg n k).length + 1 + p = c → _ := fun p hp => step_any w.heap.size c p (n / 128 ^ k) (dg n k) w wr HR.out hp hc10 (by have := Nat.div_le_self n (128 ^ k); omega)
      obtain ⟨p, hp⟩ : ∃ p, (c : Int) - 1 - k = (p : Nat) := ⟨c - 1 - k, by omega⟩
      have HC2 := Lib.hid (hcall p (by rw [dg_length]; omega))
      clear hcall
      go_wp2_with (go_at_call 175; go_must (refine (HC2.out).mono ?_); rintro e w' ⟨rfl, hs'⟩)
      go_roundw
      case rel => exact ⟨k + 1, by omega, by go_num, by
        rw [Nat.div_div_eq_div_mul, ← Nat.pow_succ] at hs'
        exact Lib.hid hs'⟩
      case measure => simp [intOf]; omega
    · obtain rfl : k = c := by omega
      obtain ⟨z1, z2, z3, z4⟩ := St_end wr w k n HR.out hc1 HC.out
      have zi : ((k : Int) - 1) = ((k - 1 : Nat) : Int) := by omega
      have z4' := (z4 _ rfl).1
      have Z := Lib.hid (z4 _ rfl).2
      clear z4 HR
      go_wp2
      go_ret
      exact ⟨rfl, Z.out⟩
end Go.Proofs.YtgeonppckeiceaaGreatDoor.Ms
namespace Go.Proofs.YtgeonppckeiceaaGreatDoor.Ms
open Go.RowKit
set_option linter.unusedVariables false

theorem putS_size (n : Nat) (h : (n : Int) ≤ 18446744073709551615) : (putS n).size ≤ 10 := by
  have := put_le n h
  simpa [putS, ByteArray.size] using this



theorem getA_bounds (s : ByteArray) (a : Int) {N P E : Nat} (h : getA s.data.toList a = (N, P, E)) : (N : Int) ≤ 18446744073709551615 ∧ P ≤ s.size := by
  unfold getA at h
  split at h
  · simp at h; omega
  · rename_i hc
    have h1 := look_lt (s.data.toList.drop a.toNat) true 0 a.toNat
    rw [h] at h1
    have h2 : s.data.toList.length = s.size := by simp
    rw [h2] at hc
    simp at h1
    omega
theorem get_at {s : ByteArray} {a : Int} {N P E : Nat} (w : World) (hs : s.size ≤ maxLen) (h : getA s.data.toList a = (N, P, E)) :
    Calls Tryz.prog 142 #[.string s, .int .i64 a] w fun e w' => e = .returned (.tuple #[.int .u64 N, .int .i64 P, .int .i64 E]) ∧ w = w' :=
  (get_any s a w hs).mono fun e w' ⟨he, hw⟩ => ⟨by rw [he]; simp [gN, gP, gE, h], hw⟩
end Go.Proofs.YtgeonppckeiceaaGreatDoor.Ms
namespace Go.Proofs.YtgeonppckeiceaaGreatDoor.Ms
open Go.RowKit
set_option linter.unusedVariables false
set_option linter.unusedSimpArgs false

/-- A message: its numbers by their cells, and its offer (cell 3). -/
structure Ms where
  i : Nat → Int
  s : ByteArray
/-- The message's cells. -/
def Ms.cl (M : Ms) : Array Value := #[.int .i64 (M.i 0), .int .u64 (M.i 1), .int .u64 (M.i 2), .string M.s, .int .i64 (M.i 4), .int .i64 (M.i 5), .int .i64 (M.i 6), .int .i64 (M.i 7), .int .i64 (M.i 8), .int .i64 (M.i 9), .int .i64 (M.i 10), .int .u64 (M.i 11), .int .u64 (M.i 12)]
def Ms.v (M : Ms) : Value := .agg M.cl
def Ms.set (M : Ms) (j : Nat) (x : Int) : Ms := { M with i := fun k => if k = j then x else M.i k }
def Ms.setS (M : Ms) (t : ByteArray) : Ms := { M with s := t }
/-- Is it a cell of 64 bits without a sign? -/
def uCell (j : Nat) : Bool := j == 1 || j == 2 || j == 11 || j == 12
/-- Is it a cell of a number? -/
def nCell (j : Nat) : Bool := decide (j < 13) && !(j == 3)
def kCell (j : Nat) : IntKind := if uCell j then .u64 else .i64
structure Ms.Wf (M : Ms) : Prop where
  n : ∀ j, nCell j = true → (Lit.int (kCell j) (M.i j)).wf = true
  s : M.s.size ≤ maxLen

/-- A field: an int with its bounds, a number of 64 bits with its bounds, a term's name, the offer. -/
inductive Fd where
  | int (j : Nat) (lo hi : Int)
  | ses (j : Nat) (lo hi : Int)
  | nam (j : Nat)
  | ver
/-- The fields of each kind. -/
def fds : Int → List Fd
  | 1 => [.ses 1 1 4294967296, .ver, .int 4 0 1, .nam 6, .nam 7, .nam 8, .nam 9, .nam 10]
  | 2 => [.ses 1 1 4294967296, .ses 2 1 4294967296, .nam 6, .nam 8, .nam 9]
  | 3 => [.ses 2 1 4294967296, .int 5 1 15]
  | 4 => [.ses 2 1 4294967296, .ses 11 0 1000, .ses 12 0 255, .nam 9]
  | _ => []
/-- It is one of these. -/
def Fd.Fit : Fd → Prop
  | .int j lo hi => (j = 4 ∨ j = 5) ∧ 0 ≤ lo ∧ lo ≤ 1 ∧ 1 ≤ hi ∧ hi ≤ 15
  | .ses j lo hi => (j = 1 ∨ j = 2 ∨ j = 11 ∨ j = 12) ∧ 0 ≤ lo ∧ lo ≤ 1 ∧ 1 ≤ hi ∧ hi ≤ 4294967296
  | .nam j => 6 ≤ j ∧ j ≤ 10
  | .ver => True
def inIv (lo hi x : Int) : Bool := decide (lo ≤ x) && decide (x ≤ hi)
def Fd.ok (M : Ms) : Fd → Bool
  | .int j lo hi => inIv lo hi (M.i j)
  | .ses j lo hi => inIv lo hi (M.i j)
  | .nam j => inIv 1 1048576 (M.i j)
  | .ver => rightB M.s.data.toList
def Fd.emp (M : Ms) : Fd → Ms
  | .int j _ _ => M.set j 0
  | .ses j _ _ => M.set j 0
  | .nam j => M.set j 0
  | .ver => M.setS ByteArray.empty
/-- A number as 64 bits without a sign. -/
def u64 (x : Int) : Nat := (IntKind.u64.wrap x).toNat
/-! As values. -/
def ptr (q j : Nat) : Value := .pointer (some ⟨q, j, none⟩)
def Fd.ty : Fd → TypeId
  | .int .. => 173
  | .ses .. => 229
  | .nam _ => 175
  | .ver => 234
def Fd.rcv (q : Nat) : Fd → Value
  | .int j lo hi => .agg #[ptr q j, .int .u64 lo, .int .u64 hi]
  | .ses j lo hi => .agg #[ptr q j, .int .u64 lo, .int .u64 hi]
  | .nam j => .agg #[ptr q j, .int .u64 1, .int .u64 1048576]
  | .ver => .agg #[ptr q 3]
def Fd.v (q : Nat) (f : Fd) : Value := .iface f.ty (f.rcv q)
def fdsV (q : Nat) (k : Int) : Array Value := ((fds k).map (Fd.v q)).toArray
/-- The message at a block. -/
def MsgAt (w : World) (q : Nat) (M : Ms) : Prop := w.heap[q]? = some (.cells M.cl 25 (0, 0))

theorem frz_of_row {w : World} {g : Nat} (j : Nat) {cs : Array Value} {t : TypeId} (h : w.heap[g]? = some (.cells cs t (0, 0))) : w.frozen? ⟨g, j, none⟩ = false := by simp [World.frozen?, h]
theorem cell_at {w : World} {g : Nat} (j : Nat) {cs : Array Value} {t : TypeId} {p : Nat × Nat} (h : w.heap[g]? = some (.cells cs t p)) : w.cell? ⟨g, j, none⟩ = cs[j]? := by simp [World.cell?, h]
theorem row_set {w : World} {b : Nat} {cs : Array Value} {t : TypeId} (i : Nat) (v : Value) (h : w.heap[b]? = some (.cells cs t (0, 0))) : (w.setCell ⟨b, i, none⟩ v).heap[b]? = some (.cells (cs.setIfInBounds i v) t (0, 0)) := by
  have hlt := blk_lt h
  have h' : w.heap[b] = .cells cs t (0, 0) := by simpa [Array.getElem?_eq_getElem hlt] using h
  show (w.heap.modify b _)[b]? = _
  rw [Array.getElem?_eq_getElem (by simpa using hlt), Array.getElem_modify_self, h']
  rfl
theorem Chg.setCell (w : World) (b i : Nat) (v : Value) : Chg (fun k => k = b) w (w.setCell ⟨b, i, none⟩ v) :=
  ⟨rfl, rfl, rfl, by simp, fun k hk hs => heap_setCell_other _ _ _ _ (by exact hs)⟩
theorem MsgAt.lt {w : World} {q : Nat} {M : Ms} (h : MsgAt w q M) : q < w.heap.size := blk_lt h
theorem MsgAt.below {w w' : World} {q : Nat} {M : Ms} (h : MsgAt w q M) (hb : Below w.heap.size w w') : MsgAt w' q M := (hb.block q h.lt).trans h
/-- A cell of a number. -/
theorem Ms.cl_at (M : Ms) {j : Nat} (h : nCell j = true) : M.cl[j]? = some (.int (kCell j) (M.i j)) := by
  simp only [nCell, Bool.and_eq_true, decide_eq_true_eq, Bool.not_eq_true', beq_eq_false_iff_ne, ne_eq] at h
  match j, h with
  | 0, _ => rfl
  | 1, _ => rfl
  | 2, _ => rfl
  | 3, h => exact absurd rfl h.2
  | 4, _ => rfl
  | 5, _ => rfl
  | 6, _ => rfl
  | 7, _ => rfl
  | 8, _ => rfl
  | 9, _ => rfl
  | 10, _ => rfl
  | 11, _ => rfl
  | 12, _ => rfl
  | n + 13, h => omega
theorem Ms.cl_s (M : Ms) : M.cl[3]? = some (.string M.s) := rfl
theorem Ms.cl_set (M : Ms) {j : Nat} (x : Int) (h : nCell j = true) : M.cl.setIfInBounds j (.int (kCell j) x) = (M.set j x).cl := by
  simp only [nCell, Bool.and_eq_true, decide_eq_true_eq, Bool.not_eq_true', beq_eq_false_iff_ne, ne_eq] at h
  match j, h with
  | 0, _ => rfl
  | 1, _ => rfl
  | 2, _ => rfl
  | 3, h => exact absurd rfl h.2
  | 4, _ => rfl
  | 5, _ => rfl
  | 6, _ => rfl
  | 7, _ => rfl
  | 8, _ => rfl
  | 9, _ => rfl
  | 10, _ => rfl
  | 11, _ => rfl
  | 12, _ => rfl
  | n + 13, h => omega
theorem MsgAt.set {w : World} {q j : Nat} {M : Ms} {k : IntKind} (h : MsgAt w q M) (hj : nCell j = true) (hk : k = kCell j) (x : Int) : MsgAt (w.setCell ⟨q, j, none⟩ (.int k x)) q (M.set j x) := by
  have := row_set j (.int k x) h
  subst hk
  rw [M.cl_set x hj] at this
  exact this
theorem MsgAt.setS {w : World} {q : Nat} {M : Ms} (h : MsgAt w q M) (t : ByteArray) : MsgAt (w.setCell ⟨q, 3, none⟩ (.string t)) q (M.setS t) := row_set 3 (.string t) h
theorem MsgAt.cell {w : World} {q j : Nat} {M : Ms} (h : MsgAt w q M) (hj : nCell j = true) : w.cell? ⟨q, j, none⟩ = some (.int (kCell j) (M.i j)) := by rw [cell_at j h, M.cl_at hj]
theorem MsgAt.cellS {w : World} {q : Nat} {M : Ms} (h : MsgAt w q M) : w.cell? ⟨q, 3, none⟩ = some (.string M.s) := by rw [cell_at 3 h, M.cl_s]
end Go.Proofs.YtgeonppckeiceaaGreatDoor.Ms
