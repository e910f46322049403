/- The program's whole: are these all parts of one message, in their order? -/
import Derived.Test.YtjcgckhheegonaaFragPa
import Derived.Test.YtjcgckhheegonaaRowJ
namespace Go.Proofs.Ytjcgckhheegonaa
open Go.RowKit
set_option linter.unusedVariables false
set_option linter.unusedSimpArgs false
set_option maxRecDepth 20000

def wholeF (fs : List Fr) : Bool := decide (0 < fs.length) && okFrom (fs.getD 0 zeroF).id fs.length 0 fs
theorem whole_bad {fs : List Fr} {k : Nat} (hk : k < fs.length) (h : okAt (fs.getD 0 zeroF).id fs.length k (fs.getD k zeroF) = false) : wholeF fs = false := by
  unfold wholeF
  cases hq : okFrom (fs.getD 0 zeroF).id fs.length 0 fs with
  | false => simp
  | true =>
    have := (okFrom_iff _ _ _ _).1 hq k hk
    rw [Nat.zero_add, h] at this
    cases this
theorem whole_none {fs : List Fr} (h : fs.length = 0) : wholeF fs = false := by unfold wholeF; simp [h]
theorem whole_all {fs : List Fr} (h1 : fs.length ≠ 0) (h : ∀ j, j < fs.length → okAt (fs.getD 0 zeroF).id fs.length j (fs.getD j zeroF) = true) : wholeF fs = true := by
  unfold wholeF
  rw [(okFrom_iff _ _ _ _).2 (fun j hj => by rw [Nat.zero_add]; exact h j hj)]
  simp; omega
theorem join_notwhole {fs : List Fr} (h : wholeF fs = false) : joinF fs = (⟨#[]⟩, 3) := by
  by_cases h0 : fs.length = 0
  · exact join_many (.inl h0)
  · unfold wholeF at h
    rw [show decide (0 < fs.length) = true by simp; omega, Bool.true_and] at h
    unfold joinF
    rw [if_pos (.inr (.inr h))]
theorem whole_ok {fs : List Fr} (h : wholeF fs = true) : fs.length ≠ 0 ∧ fs.length ≤ 16 ∧ (∀ j, j < fs.length → okAt (fs.getD 0 zeroF).id fs.length j (fs.getD j zeroF) = true) := by
  unfold wholeF at h
  rw [Bool.and_eq_true, decide_eq_true_eq] at h
  have hall : ∀ j, j < fs.length → okAt (fs.getD 0 zeroF).id fs.length j (fs.getD j zeroF) = true := fun j hj => by
    have := (okFrom_iff _ _ _ _).1 h.2 j hj
    rw [Nat.zero_add] at this
    exact this
  refine ⟨by omega, ?_, hall⟩
  obtain ⟨r, _, c, _⟩ := okAt_iff.1 (hall 0 h.1)
  obtain ⟨_, _, _, h4, _⟩ := rightF_iff.1 r
  omega
theorem join_whole {fs : List Fr} (h : wholeF fs = true) : joinF fs = if 4096 < (catF fs ⟨#[]⟩).size then (⟨#[]⟩, 4) else (catF fs ⟨#[]⟩, 0) := by
  obtain ⟨h1, h2, h3⟩ := whole_ok h
  exact join_all h1 h2 h3
set_option maxHeartbeats 16000000 in
set_option maxRecDepth 100000 in
theorem whole_f (a : Option Addr) (n cap : Nat) (fs : List Fr) (w : World) (hn : n = fs.length) (h : RowF w a cap fs) (hz : ∀ j, j < fs.length → (fs.getD j zeroF).s.size ≤ maxLen) (b : Bool) (hj : Hid (wholeF fs = b)) :
    Calls Try.prog 42 #[.slice a n cap] w fun e w' => e = .returned (.bool b) ∧ Below w.heap.size w w' := by
  have hlen := h.len
  rw [← hn] at hlen
  have HR1 := Lib.hid h
  have HN := Lib.hid hn
  have HS0 := Lib.hid hz
  have HJ := hj
  obtain ⟨id0, hid⟩ : ∃ x, (fs.getD 0 zeroF).id = x := ⟨_, rfl⟩
  have HID := Lib.hid hid
  clear h hn hz hj hid
  go_enter Try.func42, Try.ntmps42
  go_wp2_with fail
  go_loopw [7] (fun i wr => ∃ (k : Nat), k ≤ n ∧ i = .int .i64 k ∧ Hid (∀ j, j < k → okAt id0 n j (fs.getD j zeroF) = true) ∧ Hid (Below w.heap.size w wr)) (fun i _ => n - (intOf i).toNat)
  case atStart => exact ⟨0, Nat.zero_le _, rfl, Lib.hid (fun j hj => absurd hj (Nat.not_lt_zero _)), Lib.hid (Below.refl _ _)⟩
  case round =>
    obtain ⟨k, hk, rfl, HOK, HB⟩ := hrel
    by_cases hlt : k < n
    · have hlt' : (k : Int) < (n : Int) := by omega
      have h0n : (0 : Int) < (n : Int) := by omega
      have h0m : 0 < n := by omega
      have e1 : decide (k < n) = true := by simpa using hlt
      have HKN : Hid (k < fs.length) := Lib.hid (by rw [← HN.out]; exact hlt)
      have HK := Lib.hid hlt
      obtain ⟨bk, off, hqa, c0, c1, c2, c3⟩ := frow_cell HR1.out (j := k) HKN.out
      obtain ⟨bk', off', hqb, z0, _, _, _⟩ := frow_cell HR1.out (j := 0) (by have := HKN.out; omega)
      subst hqa
      obtain ⟨rfl, rfl⟩ : bk = bk' ∧ off = off' := by simpa using hqb
      rw [HID.out, Nat.zero_mul, Nat.add_zero] at z0
      replace z0 := (HB.out.cell (block_lt_of_cell z0)).trans z0
      replace c0 := (HB.out.cell (block_lt_of_cell c0)).trans c0
      replace c1 := (HB.out.cell (block_lt_of_cell c1)).trans c1
      replace c2 := (HB.out.cell (block_lt_of_cell c2)).trans c2
      replace c3 := (HB.out.cell (block_lt_of_cell c3)).trans c3
      have HSZ := Lib.hid (HS0.out k HKN.out)
      obtain ⟨z, hz⟩ : ∃ z, fs.getD k zeroF = z := ⟨_, rfl⟩
      rw [hz] at c0 c1 c2 c3 HSZ
      have HZ := Lib.hid hz
      clear hz hqb hk hlt
      obtain ⟨id, ix, ct, s⟩ := z
      dsimp only at c0 c1 c2 c3 HSZ
      go_wp2_with fail
      clear c0 c1 c2 c3
      obtain ⟨u, hu⟩ : ∃ u, u = wr.alloc (.cells #[.int .u64 id, .int .i64 ix, .int .i64 ct, .string s] 35) := ⟨_, rfl⟩
      have hb : Below wr.heap.size wr u := by rw [hu]; exact below_alloc _ _
      obtain ⟨q, hq⟩ : ∃ q, q = wr.heap.size := ⟨_, rfl⟩
      have hF : FrAt 35 u q ⟨id, ix, ct, s⟩ := by rw [hu, hq]; exact heap_alloc_new wr _
      replace z0 := (hb.cell (block_lt_of_cell z0)).trans z0
      replace HB := Lib.hid (HB.out.trans (hb.mono HB.out.size))
      have HC : Hid (u.cell? ⟨q, 0, none⟩ = some (.int .u64 id) ∧ u.cell? ⟨q, 1, none⟩ = some (.int .i64 ix) ∧ u.cell? ⟨q, 2, none⟩ = some (.int .i64 ct) ∧ u.cell? ⟨q, 3, none⟩ = some (.string s) ∧ u.cell? ⟨bk, off, none⟩ = some (.int .u64 id0)) := Lib.hid ⟨hF.cells.1, hF.cells.2.1, hF.cells.2.2.1, hF.cells.2.2.2, z0⟩
      rw [← hu, ← hq]
      clear hb hF hu hq z0
      cases hr : rightF ⟨id, ix, ct, s⟩ with
      | false =>
        have HRT := Lib.hid hr
        clear hr
        have HJ2 : Hid (wholeF fs = false) := Lib.hid (whole_bad (k := k) HKN.out (by
          cases hq : okAt (fs.getD 0 zeroF).id fs.length k (fs.getD k zeroF) with
          | false => rfl
          | true =>
            rw [HID.out, HZ.out] at hq
            obtain ⟨q1, q2, q3, q4⟩ := okAt_iff.1 hq
            dsimp only at q2 q3 q4
            have := HN.out
            first | (rw [HRT.out] at q1; exact absurd q1 (by decide)) | (exact absurd q2 hb1) | (exact absurd (by rw [q3, ← HN.out]) hb1) | (exact absurd q4 hb1)))
        refine wp_region_held_drew (S := fun u => u.cell? ⟨q, 0, none⟩ = some (.int .u64 id) ∧ u.cell? ⟨q, 1, none⟩ = some (.int .i64 ix) ∧ u.cell? ⟨q, 2, none⟩ = some (.int .i64 ct) ∧ u.cell? ⟨q, 3, none⟩ = some (.string s) ∧ u.cell? ⟨bk, off, none⟩ = some (.int .u64 id0)) (by kernel_rfl) HC.out (fun hHeld => ?_)
        have HBB := Lib.hid (below_drewn HB.out)
        clear HB HC
        refine wpAnyH_take (i := 0) (oi := ?o1) (v := ?v1) ?i1 (by kernel_rfl) (by kernel_rfl) (by kernel_rfl) ?q1 (Or.inl ⟨?w1, ?y1⟩) (by assumption) ?r1
        case' i1 => simp only [List.getElem?_toArray, List.getElem?_cons_succ, List.getElem?_cons_zero]
        case i1 => rfl
        case q1 => exact fun _ _ _ h => h
        case w1 => rfl
        case y1 => (intro w hSw; obtain ⟨k0, k1, k2, k3, k4⟩ := hSw; go_simp) <;> with_reducible rfl
        try simp only [Act.put, List.setIfInBounds_toArray, List.set_cons_zero, List.set_cons_succ]
        refine wpAnyH_ready (rs := [1]) (by kernel_rfl) (by simp) ?_
        refine AllReadyH.cons (o := ?o2) ?i2 (fun K' hK => ?_) AllReadyH.nil
        case' i2 => simp only [List.getElem?_toArray, List.getElem?_cons_succ, List.getElem?_cons_zero]
        case i2 => rfl
        go_simp
        go_at_call 25
        refine (right_f id ix ct s _ HSZ.out false HRT).mono ?_
        rintro e w' ⟨rfl, hb⟩
        have HBB' := Lib.hid (HBB.out.trans (hb.mono HBB.out.size))
        have hHeld' : w'.cell? ⟨q, 0, none⟩ = some (.int .u64 id) ∧ w'.cell? ⟨q, 1, none⟩ = some (.int .i64 ix) ∧ w'.cell? ⟨q, 2, none⟩ = some (.int .i64 ct) ∧ w'.cell? ⟨q, 3, none⟩ = some (.string s) ∧ w'.cell? ⟨bk, off, none⟩ = some (.int .u64 id0) := ⟨(hb.cell (block_lt_of_cell hHeld.1)).trans hHeld.1, (hb.cell (block_lt_of_cell hHeld.2.1)).trans hHeld.2.1, (hb.cell (block_lt_of_cell hHeld.2.2.1)).trans hHeld.2.2.1, (hb.cell (block_lt_of_cell hHeld.2.2.2.1)).trans hHeld.2.2.2.1, (hb.cell (block_lt_of_cell hHeld.2.2.2.2)).trans hHeld.2.2.2.2⟩
        clear HBB hb
        have HBB := HBB'
        clear HBB'
        go_wp2_with fail
        refine hK.out _ _ hHeld' (fun _ => ?_)
        clear hK K' hHeld
        have hHeld := hHeld'
        clear hHeld'
        try simp only [Act.put, List.setIfInBounds_toArray, List.set_cons_zero, List.set_cons_succ]
        refine wpAnyH_take (i := 2) (oi := ?o3) (v := ?v3) ?i3 (by kernel_rfl) (by kernel_rfl) (by kernel_rfl) ?q3 (Or.inl ⟨?w3, ?y3⟩) (by assumption) ?r3
        case' i3 => simp only [List.getElem?_toArray, List.getElem?_cons_succ, List.getElem?_cons_zero]
        case i3 => rfl
        case q3 => exact fun _ _ _ h => h
        case w3 => rfl
        case y3 => (intro w hSw; go_simp) <;> with_reducible rfl
        try simp only [Act.put, List.setIfInBounds_toArray, List.set_cons_zero, List.set_cons_succ]
        refine wpAnyH_take (i := 3) (oi := ?o4) (v := ?v4) ?i4 (by kernel_rfl) (by kernel_rfl) (by kernel_rfl) ?q4 (Or.inl ⟨?w4, ?y4⟩) (by assumption) ?r4
        case' i4 => simp only [List.getElem?_toArray, List.getElem?_cons_succ, List.getElem?_cons_zero]
        case i4 => rfl
        case q4 => exact fun _ _ _ h => h
        case w4 => rfl
        case y4 => (intro w hSw; go_simp) <;> with_reducible rfl
        try simp only [Act.put, List.setIfInBounds_toArray, List.set_cons_zero, List.set_cons_succ]
        refine wpAnyH_take (i := 4) (oi := ?o5) (v := undef) ?i5 (by kernel_rfl) (by kernel_rfl) (by kernel_rfl) ?q5 (Or.inr ⟨?w5, rfl⟩) (by assumption) ?r5
        case' i5 => simp only [List.getElem?_toArray, List.getElem?_cons_succ, List.getElem?_cons_zero]
        case i5 => rfl
        case q5 => exact fun _ _ _ h => h
        case w5 => rfl
        try simp only [Act.put, List.setIfInBounds_toArray, List.set_cons_zero, List.set_cons_succ]
        refine wpAnyH_take (i := 5) (oi := ?o6) (v := undef) ?i6 (by kernel_rfl) (by kernel_rfl) (by kernel_rfl) ?q6 (Or.inr ⟨?w6, rfl⟩) (by assumption) ?r6
        case' i6 => simp only [List.getElem?_toArray, List.getElem?_cons_succ, List.getElem?_cons_zero]
        case i6 => rfl
        case q6 => exact fun _ _ _ h => h
        case w6 => rfl
        try simp only [Act.put, List.setIfInBounds_toArray, List.set_cons_zero, List.set_cons_succ]
        refine wpAnyH_take (i := 6) (oi := ?o7) (v := undef) ?i7 (by kernel_rfl) (by kernel_rfl) (by kernel_rfl) ?q7 (Or.inr ⟨?w7, rfl⟩) (by assumption) ?r7
        case' i7 => simp only [List.getElem?_toArray, List.getElem?_cons_succ, List.getElem?_cons_zero]
        case i7 => rfl
        case q7 => exact fun _ _ _ h => h
        case w7 => rfl
        try simp only [Act.put, List.setIfInBounds_toArray, List.set_cons_zero, List.set_cons_succ]
        refine wpAnyH_take (i := 7) (oi := ?o8) (v := undef) ?i8 (by kernel_rfl) (by kernel_rfl) (by kernel_rfl) ?q8 (Or.inr ⟨?w8, rfl⟩) (by assumption) ?r8
        case' i8 => simp only [List.getElem?_toArray, List.getElem?_cons_succ, List.getElem?_cons_zero]
        case i8 => rfl
        case q8 => exact fun _ _ _ h => h
        case w8 => rfl
        try simp only [Act.put, List.setIfInBounds_toArray, List.set_cons_zero, List.set_cons_succ]
        refine wpAnyH_take (i := 8) (oi := ?o9) (v := undef) ?i9 (by kernel_rfl) (by kernel_rfl) (by kernel_rfl) ?q9 (Or.inr ⟨?w9, rfl⟩) (by assumption) ?r9
        case' i9 => simp only [List.getElem?_toArray, List.getElem?_cons_succ, List.getElem?_cons_zero]
        case i9 => rfl
        case q9 => exact fun _ _ _ h => h
        case w9 => rfl
        try simp only [Act.put, List.setIfInBounds_toArray, List.set_cons_zero, List.set_cons_succ]
        refine wpAnyH_take (i := 9) (oi := ?o10) (v := undef) ?i10 (by kernel_rfl) (by kernel_rfl) (by kernel_rfl) ?q10 (Or.inr ⟨?w10, rfl⟩) (by assumption) ?r10
        case' i10 => simp only [List.getElem?_toArray, List.getElem?_cons_succ, List.getElem?_cons_zero]
        case i10 => rfl
        case q10 => exact fun _ _ _ h => h
        case w10 => rfl
        try simp only [Act.put, List.setIfInBounds_toArray, List.set_cons_zero, List.set_cons_succ]
        refine wpAnyH_take (i := 10) (oi := ?o11) (v := undef) ?i11 (by kernel_rfl) (by kernel_rfl) (by kernel_rfl) ?q11 (Or.inr ⟨?w11, rfl⟩) (by assumption) ?r11
        case' i11 => simp only [List.getElem?_toArray, List.getElem?_cons_succ, List.getElem?_cons_zero]
        case i11 => rfl
        case q11 => exact fun _ _ _ h => h
        case w11 => rfl
        try simp only [Act.put, List.setIfInBounds_toArray, List.set_cons_zero, List.set_cons_succ]
        refine wpAnyH_take (i := 11) (oi := ?o12) (v := ?v12) ?i12 (by kernel_rfl) (by kernel_rfl) (by kernel_rfl) ?q12 (Or.inl ⟨?w12, ?y12⟩) (by assumption) ?r12
        case' i12 => simp only [List.getElem?_toArray, List.getElem?_cons_succ, List.getElem?_cons_zero]
        case i12 => rfl
        case q12 => exact fun _ _ _ h => h
        case w12 => rfl
        case y12 => (intro w hSw; go_simp) <;> with_reducible rfl
        try simp only [Act.put, List.setIfInBounds_toArray, List.set_cons_zero, List.set_cons_succ]
        refine wpAnyH_take (i := 12) (oi := ?o13) (v := ?v13) ?i13 (by kernel_rfl) (by kernel_rfl) (by kernel_rfl) ?q13 (Or.inl ⟨?w13, ?y13⟩) (by assumption) ?r13
        case' i13 => simp only [List.getElem?_toArray, List.getElem?_cons_succ, List.getElem?_cons_zero]
        case i13 => rfl
        case q13 => exact fun _ _ _ h => h
        case w13 => rfl
        case y13 => (intro w hSw; go_simp) <;> with_reducible rfl
        try simp only [Act.put, List.setIfInBounds_toArray, List.set_cons_zero, List.set_cons_succ]
        refine wpAnyH_take (i := 13) (oi := ?o14) (v := undef) ?i14 (by kernel_rfl) (by kernel_rfl) (by kernel_rfl) ?q14 (Or.inr ⟨?w14, rfl⟩) (by assumption) ?r14
        case' i14 => simp only [List.getElem?_toArray, List.getElem?_cons_succ, List.getElem?_cons_zero]
        case i14 => rfl
        case q14 => exact fun _ _ _ h => h
        case w14 => rfl
        try simp only [Act.put, List.setIfInBounds_toArray, List.set_cons_zero, List.set_cons_succ]
        refine wpAnyH_take (i := 14) (oi := ?o15) (v := undef) ?i15 (by kernel_rfl) (by kernel_rfl) (by kernel_rfl) ?q15 (Or.inr ⟨?w15, rfl⟩) (by assumption) ?r15
        case' i15 => simp only [List.getElem?_toArray, List.getElem?_cons_succ, List.getElem?_cons_zero]
        case i15 => rfl
        case q15 => exact fun _ _ _ h => h
        case w15 => rfl
        try simp only [Act.put, List.setIfInBounds_toArray, List.set_cons_zero, List.set_cons_succ]
        refine wpAnyH_take (i := 15) (oi := ?o16) (v := undef) ?i16 (by kernel_rfl) (by kernel_rfl) (by kernel_rfl) ?q16 (Or.inr ⟨?w16, rfl⟩) (by assumption) ?r16
        case' i16 => simp only [List.getElem?_toArray, List.getElem?_cons_succ, List.getElem?_cons_zero]
        case i16 => rfl
        case q16 => exact fun _ _ _ h => h
        case w16 => rfl
        try simp only [Act.put, List.setIfInBounds_toArray, List.set_cons_zero, List.set_cons_succ]
        refine wpAnyH_take (i := 16) (oi := ?o17) (v := undef) ?i17 (by kernel_rfl) (by kernel_rfl) (by kernel_rfl) ?q17 (Or.inr ⟨?w17, rfl⟩) (by assumption) ?r17
        case' i17 => simp only [List.getElem?_toArray, List.getElem?_cons_succ, List.getElem?_cons_zero]
        case i17 => rfl
        case q17 => exact fun _ _ _ h => h
        case w17 => rfl
        try simp only [Act.put, List.setIfInBounds_toArray, List.set_cons_zero, List.set_cons_succ]
        refine wpAnyH_take (i := 17) (oi := ?o18) (v := undef) ?i18 (by kernel_rfl) (by kernel_rfl) (by kernel_rfl) ?q18 (Or.inr ⟨?w18, rfl⟩) (by assumption) ?r18
        case' i18 => simp only [List.getElem?_toArray, List.getElem?_cons_succ, List.getElem?_cons_zero]
        case i18 => rfl
        case q18 => exact fun _ _ _ h => h
        case w18 => rfl
        try simp only [Act.put, List.setIfInBounds_toArray, List.set_cons_zero, List.set_cons_succ]
        refine wpAnyH_take (i := 18) (oi := ?o19) (v := ?v19) ?i19 (by kernel_rfl) (by kernel_rfl) (by kernel_rfl) ?q19 (Or.inl ⟨?w19, ?y19⟩) (by assumption) ?r19
        case' i19 => simp only [List.getElem?_toArray, List.getElem?_cons_succ, List.getElem?_cons_zero]
        case i19 => rfl
        case q19 => exact fun _ _ _ h => h
        case w19 => rfl
        case y19 => (intro w hSw; go_simp) <;> with_reducible rfl
        try simp only [Act.put, List.setIfInBounds_toArray, List.set_cons_zero, List.set_cons_succ]
        refine wpAnyH_take (i := 19) (oi := ?o20) (v := ?v20) ?i20 (by kernel_rfl) (by kernel_rfl) (by kernel_rfl) ?q20 (Or.inl ⟨?w20, ?y20⟩) (by assumption) ?r20
        case' i20 => simp only [List.getElem?_toArray, List.getElem?_cons_succ, List.getElem?_cons_zero]
        case i20 => rfl
        case q20 => exact fun _ _ _ h => h
        case w20 => rfl
        case y20 => (intro w hSw; go_simp) <;> with_reducible rfl
        try simp only [Act.put, List.setIfInBounds_toArray, List.set_cons_zero, List.set_cons_succ]
        refine wpAnyH_take (i := 20) (oi := ?o21) (v := undef) ?i21 (by kernel_rfl) (by kernel_rfl) (by kernel_rfl) ?q21 (Or.inr ⟨?w21, rfl⟩) (by assumption) ?r21
        case' i21 => simp only [List.getElem?_toArray, List.getElem?_cons_succ, List.getElem?_cons_zero]
        case i21 => rfl
        case q21 => exact fun _ _ _ h => h
        case w21 => rfl
        try simp only [Act.put, List.setIfInBounds_toArray, List.set_cons_zero, List.set_cons_succ]
        refine wpAnyH_take (i := 21) (oi := ?o22) (v := undef) ?i22 (by kernel_rfl) (by kernel_rfl) (by kernel_rfl) ?q22 (Or.inr ⟨?w22, rfl⟩) (by assumption) ?r22
        case' i22 => simp only [List.getElem?_toArray, List.getElem?_cons_succ, List.getElem?_cons_zero]
        case i22 => rfl
        case q22 => exact fun _ _ _ h => h
        case w22 => rfl
        try simp only [Act.put, List.setIfInBounds_toArray, List.set_cons_zero, List.set_cons_succ]
        refine wpAnyH_take (i := 22) (oi := ?o23) (v := undef) ?i23 (by kernel_rfl) (by kernel_rfl) (by kernel_rfl) ?q23 (Or.inr ⟨?w23, rfl⟩) (by assumption) ?r23
        case' i23 => simp only [List.getElem?_toArray, List.getElem?_cons_succ, List.getElem?_cons_zero]
        case i23 => rfl
        case q23 => exact fun _ _ _ h => h
        case w23 => rfl
        try simp only [Act.put, List.setIfInBounds_toArray, List.set_cons_zero, List.set_cons_succ]
        refine wpAnyH_take (i := 23) (oi := ?o24) (v := undef) ?i24 (by kernel_rfl) (by kernel_rfl) (by kernel_rfl) ?q24 (Or.inr ⟨?w24, rfl⟩) (by assumption) ?r24
        case' i24 => simp only [List.getElem?_toArray, List.getElem?_cons_succ, List.getElem?_cons_zero]
        case i24 => rfl
        case q24 => exact fun _ _ _ h => h
        case w24 => rfl
        try simp only [Act.put, List.setIfInBounds_toArray, List.set_cons_zero, List.set_cons_succ]
        refine wpAnyH_take (i := 24) (oi := ?o25) (v := ?v25) ?i25 (by kernel_rfl) (by kernel_rfl) (by kernel_rfl) ?q25 (Or.inl ⟨?w25, ?y25⟩) (by assumption) ?r25
        case' i25 => simp only [List.getElem?_toArray, List.getElem?_cons_succ, List.getElem?_cons_zero]
        case i25 => rfl
        case q25 => exact fun _ _ _ h => h
        case w25 => rfl
        case y25 => (intro w hSw; go_simp) <;> with_reducible rfl
        try simp only [Act.put, List.setIfInBounds_toArray, List.set_cons_zero, List.set_cons_succ]
        refine wpAnyH_done (by kernel_rfl) ?_ _
        clear hHeld
        go_wp2
        go_ret
        exact ⟨by rw [← HJ.out, HJ2.out]; rfl, HBB.out⟩
      | true =>
        have HRT := Lib.hid hr
        clear hr
        by_cases hb1 : id = id0
        · have q1 : (id != id0) = false := by simp [hb1]
          have HI0 := Lib.hid hb1
          clear hb1
          by_cases hb1 : ct = (n : Int)
          · have q2 : (ct != (n : Int)) = false := by simp [hb1]
            have HI1 := Lib.hid hb1
            clear hb1
            by_cases hb1 : ix = (k : Int)
            · have q3 : (ix != (k : Int)) = false := by simp [hb1]
              have HI2 := Lib.hid hb1
              clear hb1
              have HOK2 : Hid (∀ j, j < k + 1 → okAt id0 n j (fs.getD j zeroF) = true) := Lib.hid (fun j hj => by
                rcases Nat.lt_or_ge j k with q | q
                · exact HOK.out j q
                · obtain rfl : j = k := by omega
                  rw [HZ.out]
                  exact okAt_iff.2 ⟨HRT.out, HI0.out, HI1.out, HI2.out⟩)
              clear HOK
              refine wp_region_held_drew (S := fun u => u.cell? ⟨q, 0, none⟩ = some (.int .u64 id) ∧ u.cell? ⟨q, 1, none⟩ = some (.int .i64 ix) ∧ u.cell? ⟨q, 2, none⟩ = some (.int .i64 ct) ∧ u.cell? ⟨q, 3, none⟩ = some (.string s) ∧ u.cell? ⟨bk, off, none⟩ = some (.int .u64 id0)) (by kernel_rfl) HC.out (fun hHeld => ?_)
              have HBB := Lib.hid (below_drewn HB.out)
              clear HB HC
              refine wpAnyH_take (i := 0) (oi := ?o26) (v := ?v26) ?i26 (by kernel_rfl) (by kernel_rfl) (by kernel_rfl) ?q26 (Or.inl ⟨?w26, ?y26⟩) (by assumption) ?r26
              case' i26 => simp only [List.getElem?_toArray, List.getElem?_cons_succ, List.getElem?_cons_zero]
              case i26 => rfl
              case q26 => exact fun _ _ _ h => h
              case w26 => rfl
              case y26 => (intro w hSw; obtain ⟨k0, k1, k2, k3, k4⟩ := hSw; go_simp) <;> with_reducible rfl
              try simp only [Act.put, List.setIfInBounds_toArray, List.set_cons_zero, List.set_cons_succ]
              refine wpAnyH_ready (rs := [1]) (by kernel_rfl) (by simp) ?_
              refine AllReadyH.cons (o := ?o27) ?i27 (fun K' hK => ?_) AllReadyH.nil
              case' i27 => simp only [List.getElem?_toArray, List.getElem?_cons_succ, List.getElem?_cons_zero]
              case i27 => rfl
              go_simp
              go_at_call 25
              refine (right_f id ix ct s _ HSZ.out true HRT).mono ?_
              rintro e w' ⟨rfl, hb⟩
              have HBB' := Lib.hid (HBB.out.trans (hb.mono HBB.out.size))
              have hHeld' : w'.cell? ⟨q, 0, none⟩ = some (.int .u64 id) ∧ w'.cell? ⟨q, 1, none⟩ = some (.int .i64 ix) ∧ w'.cell? ⟨q, 2, none⟩ = some (.int .i64 ct) ∧ w'.cell? ⟨q, 3, none⟩ = some (.string s) ∧ w'.cell? ⟨bk, off, none⟩ = some (.int .u64 id0) := ⟨(hb.cell (block_lt_of_cell hHeld.1)).trans hHeld.1, (hb.cell (block_lt_of_cell hHeld.2.1)).trans hHeld.2.1, (hb.cell (block_lt_of_cell hHeld.2.2.1)).trans hHeld.2.2.1, (hb.cell (block_lt_of_cell hHeld.2.2.2.1)).trans hHeld.2.2.2.1, (hb.cell (block_lt_of_cell hHeld.2.2.2.2)).trans hHeld.2.2.2.2⟩
              clear HBB hb
              have HBB := HBB'
              clear HBB'
              go_wp2_with fail
              refine hK.out _ _ hHeld' (fun _ => ?_)
              clear hK K' hHeld
              have hHeld := hHeld'
              clear hHeld'
              try simp only [Act.put, List.setIfInBounds_toArray, List.set_cons_zero, List.set_cons_succ]
              refine wpAnyH_take (i := 2) (oi := ?o28) (v := ?v28) ?i28 (by kernel_rfl) (by kernel_rfl) (by kernel_rfl) ?q28 (Or.inl ⟨?w28, ?y28⟩) (by assumption) ?r28
              case' i28 => simp only [List.getElem?_toArray, List.getElem?_cons_succ, List.getElem?_cons_zero]
              case i28 => rfl
              case q28 => exact fun _ _ _ h => h
              case w28 => rfl
              case y28 => (intro w hSw; go_simp) <;> with_reducible rfl
              try simp only [Act.put, List.setIfInBounds_toArray, List.set_cons_zero, List.set_cons_succ]
              refine wpAnyH_take (i := 3) (oi := ?o29) (v := ?v29) ?i29 (by kernel_rfl) (by kernel_rfl) (by kernel_rfl) ?q29 (Or.inl ⟨?w29, ?y29⟩) (by assumption) ?r29
              case' i29 => simp only [List.getElem?_toArray, List.getElem?_cons_succ, List.getElem?_cons_zero]
              case i29 => rfl
              case q29 => exact fun _ _ _ h => h
              case w29 => rfl
              case y29 => (intro w hSw; go_simp) <;> with_reducible rfl
              try simp only [Act.put, List.setIfInBounds_toArray, List.set_cons_zero, List.set_cons_succ]
              refine wpAnyH_take (i := 4) (oi := ?o30) (v := ?v30) ?i30 (by kernel_rfl) (by kernel_rfl) (by kernel_rfl) ?q30 (Or.inl ⟨?w30, ?y30⟩) (by assumption) ?r30
              case' i30 => simp only [List.getElem?_toArray, List.getElem?_cons_succ, List.getElem?_cons_zero]
              case i30 => rfl
              case q30 => exact fun _ _ _ h => h
              case w30 => rfl
              case y30 => (intro w hSw; go_simp) <;> with_reducible rfl
              try simp only [Act.put, List.setIfInBounds_toArray, List.set_cons_zero, List.set_cons_succ]
              refine wpAnyH_take (i := 5) (oi := ?o31) (v := ?v31) ?i31 (by kernel_rfl) (by kernel_rfl) (by kernel_rfl) ?q31 (Or.inl ⟨?w31, ?y31⟩) (by assumption) ?r31
              case' i31 => simp only [List.getElem?_toArray, List.getElem?_cons_succ, List.getElem?_cons_zero]
              case i31 => rfl
              case q31 => exact fun _ _ _ h => h
              case w31 => rfl
              case y31 => (intro w hSw; obtain ⟨k0, k1, k2, k3, k4⟩ := hSw; go_simp) <;> with_reducible rfl
              try simp only [Act.put, List.setIfInBounds_toArray, List.set_cons_zero, List.set_cons_succ]
              refine wpAnyH_take (i := 6) (oi := ?o32) (v := ?v32) ?i32 (by kernel_rfl) (by kernel_rfl) (by kernel_rfl) ?q32 (Or.inl ⟨?w32, ?y32⟩) (by assumption) ?r32
              case' i32 => simp only [List.getElem?_toArray, List.getElem?_cons_succ, List.getElem?_cons_zero]
              case i32 => rfl
              case q32 => exact fun _ _ _ h => h
              case w32 => rfl
              case y32 => (intro w hSw; go_simp) <;> with_reducible rfl
              try simp only [Act.put, List.setIfInBounds_toArray, List.set_cons_zero, List.set_cons_succ]
              refine wpAnyH_take (i := 7) (oi := ?o33) (v := ?v33) ?i33 (by kernel_rfl) (by kernel_rfl) (by kernel_rfl) ?q33 (Or.inl ⟨?w33, ?y33⟩) (by assumption) ?r33
              case' i33 => simp only [List.getElem?_toArray, List.getElem?_cons_succ, List.getElem?_cons_zero]
              case i33 => rfl
              case q33 => exact fun _ _ _ h => h
              case w33 => rfl
              case y33 => (intro w hSw; go_simp) <;> with_reducible rfl
              try simp only [Act.put, List.setIfInBounds_toArray, List.set_cons_zero, List.set_cons_succ]
              refine wpAnyH_take (i := 8) (oi := ?o34) (v := ?v34) ?i34 (by kernel_rfl) (by kernel_rfl) (by kernel_rfl) ?q34 (Or.inl ⟨?w34, ?y34⟩) (by assumption) ?r34
              case' i34 => simp only [List.getElem?_toArray, List.getElem?_cons_succ, List.getElem?_cons_zero]
              case i34 => rfl
              case q34 => exact fun _ _ _ h => h
              case w34 => rfl
              case y34 => (intro w hSw; go_simp) <;> with_reducible rfl
              try simp only [Act.put, List.setIfInBounds_toArray, List.set_cons_zero, List.set_cons_succ]
              refine wpAnyH_take (i := 9) (oi := ?o35) (v := ?v35) ?i35 (by kernel_rfl) (by kernel_rfl) (by kernel_rfl) ?q35 (Or.inl ⟨?w35, ?y35⟩) (by assumption) ?r35
              case' i35 => simp only [List.getElem?_toArray, List.getElem?_cons_succ, List.getElem?_cons_zero]
              case i35 => rfl
              case q35 => exact fun _ _ _ h => h
              case w35 => rfl
              case y35 => (intro w hSw; obtain ⟨k0, k1, k2, k3, k4⟩ := hSw; go_simp) <;> with_reducible rfl
              try simp only [Act.put, List.setIfInBounds_toArray, List.set_cons_zero, List.set_cons_succ]
              refine wpAnyH_take (i := 10) (oi := ?o36) (v := ?v36) ?i36 (by kernel_rfl) (by kernel_rfl) (by kernel_rfl) ?q36 (Or.inl ⟨?w36, ?y36⟩) (by assumption) ?r36
              case' i36 => simp only [List.getElem?_toArray, List.getElem?_cons_succ, List.getElem?_cons_zero]
              case i36 => rfl
              case q36 => exact fun _ _ _ h => h
              case w36 => rfl
              case y36 => (intro w hSw; go_simp) <;> with_reducible rfl
              try simp only [Act.put, List.setIfInBounds_toArray, List.set_cons_zero, List.set_cons_succ]
              refine wpAnyH_take (i := 11) (oi := ?o37) (v := ?v37) ?i37 (by kernel_rfl) (by kernel_rfl) (by kernel_rfl) ?q37 (Or.inl ⟨?w37, ?y37⟩) (by assumption) ?r37
              case' i37 => simp only [List.getElem?_toArray, List.getElem?_cons_succ, List.getElem?_cons_zero]
              case i37 => rfl
              case q37 => exact fun _ _ _ h => h
              case w37 => rfl
              case y37 => (intro w hSw; go_simp) <;> with_reducible rfl
              try simp only [Act.put, List.setIfInBounds_toArray, List.set_cons_zero, List.set_cons_succ]
              refine wpAnyH_take (i := 12) (oi := ?o38) (v := ?v38) ?i38 (by kernel_rfl) (by kernel_rfl) (by kernel_rfl) ?q38 (Or.inl ⟨?w38, ?y38⟩) (by assumption) ?r38
              case' i38 => simp only [List.getElem?_toArray, List.getElem?_cons_succ, List.getElem?_cons_zero]
              case i38 => rfl
              case q38 => exact fun _ _ _ h => h
              case w38 => rfl
              case y38 => (intro w hSw; go_simp) <;> with_reducible rfl
              try simp only [Act.put, List.setIfInBounds_toArray, List.set_cons_zero, List.set_cons_succ]
              refine wpAnyH_take (i := 13) (oi := ?o39) (v := ?v39) ?i39 (by kernel_rfl) (by kernel_rfl) (by kernel_rfl) ?q39 (Or.inl ⟨?w39, ?y39⟩) (by assumption) ?r39
              case' i39 => simp only [List.getElem?_toArray, List.getElem?_cons_succ, List.getElem?_cons_zero]
              case i39 => rfl
              case q39 => exact fun _ _ _ h => h
              case w39 => rfl
              case y39 => (intro w hSw; go_simp) <;> with_reducible rfl
              try simp only [Act.put, List.setIfInBounds_toArray, List.set_cons_zero, List.set_cons_succ]
              refine wpAnyH_take (i := 14) (oi := ?o40) (v := ?v40) ?i40 (by kernel_rfl) (by kernel_rfl) (by kernel_rfl) ?q40 (Or.inl ⟨?w40, ?y40⟩) (by assumption) ?r40
              case' i40 => simp only [List.getElem?_toArray, List.getElem?_cons_succ, List.getElem?_cons_zero]
              case i40 => rfl
              case q40 => exact fun _ _ _ h => h
              case w40 => rfl
              case y40 => (intro w hSw; obtain ⟨k0, k1, k2, k3, k4⟩ := hSw; go_simp) <;> with_reducible rfl
              try simp only [Act.put, List.setIfInBounds_toArray, List.set_cons_zero, List.set_cons_succ]
              refine wpAnyH_take (i := 15) (oi := ?o41) (v := ?v41) ?i41 (by kernel_rfl) (by kernel_rfl) (by kernel_rfl) ?q41 (Or.inl ⟨?w41, ?y41⟩) (by assumption) ?r41
              case' i41 => simp only [List.getElem?_toArray, List.getElem?_cons_succ, List.getElem?_cons_zero]
              case i41 => rfl
              case q41 => exact fun _ _ _ h => h
              case w41 => rfl
              case y41 => (intro w hSw; go_simp) <;> with_reducible rfl
              try simp only [Act.put, List.setIfInBounds_toArray, List.set_cons_zero, List.set_cons_succ]
              refine wpAnyH_take (i := 16) (oi := ?o42) (v := ?v42) ?i42 (by kernel_rfl) (by kernel_rfl) (by kernel_rfl) ?q42 (Or.inl ⟨?w42, ?y42⟩) (by assumption) ?r42
              case' i42 => simp only [List.getElem?_toArray, List.getElem?_cons_succ, List.getElem?_cons_zero]
              case i42 => rfl
              case q42 => exact fun _ _ _ h => h
              case w42 => rfl
              case y42 => (intro w hSw; go_simp) <;> with_reducible rfl
              try simp only [Act.put, List.setIfInBounds_toArray, List.set_cons_zero, List.set_cons_succ]
              refine wpAnyH_take (i := 17) (oi := ?o43) (v := ?v43) ?i43 (by kernel_rfl) (by kernel_rfl) (by kernel_rfl) ?q43 (Or.inl ⟨?w43, ?y43⟩) (by assumption) ?r43
              case' i43 => simp only [List.getElem?_toArray, List.getElem?_cons_succ, List.getElem?_cons_zero]
              case i43 => rfl
              case q43 => exact fun _ _ _ h => h
              case w43 => rfl
              case y43 => (intro w hSw; go_simp) <;> with_reducible rfl
              try simp only [Act.put, List.setIfInBounds_toArray, List.set_cons_zero, List.set_cons_succ]
              refine wpAnyH_take (i := 18) (oi := ?o44) (v := ?v44) ?i44 (by kernel_rfl) (by kernel_rfl) (by kernel_rfl) ?q44 (Or.inl ⟨?w44, ?y44⟩) (by assumption) ?r44
              case' i44 => simp only [List.getElem?_toArray, List.getElem?_cons_succ, List.getElem?_cons_zero]
              case i44 => rfl
              case q44 => exact fun _ _ _ h => h
              case w44 => rfl
              case y44 => (intro w hSw; go_simp) <;> with_reducible rfl
              try simp only [Act.put, List.setIfInBounds_toArray, List.set_cons_zero, List.set_cons_succ]
              refine wpAnyH_take (i := 19) (oi := ?o45) (v := ?v45) ?i45 (by kernel_rfl) (by kernel_rfl) (by kernel_rfl) ?q45 (Or.inl ⟨?w45, ?y45⟩) (by assumption) ?r45
              case' i45 => simp only [List.getElem?_toArray, List.getElem?_cons_succ, List.getElem?_cons_zero]
              case i45 => rfl
              case q45 => exact fun _ _ _ h => h
              case w45 => rfl
              case y45 => (intro w hSw; go_simp) <;> with_reducible rfl
              try simp only [Act.put, List.setIfInBounds_toArray, List.set_cons_zero, List.set_cons_succ]
              refine wpAnyH_take (i := 20) (oi := ?o46) (v := ?v46) ?i46 (by kernel_rfl) (by kernel_rfl) (by kernel_rfl) ?q46 (Or.inl ⟨?w46, ?y46⟩) (by assumption) ?r46
              case' i46 => simp only [List.getElem?_toArray, List.getElem?_cons_succ, List.getElem?_cons_zero]
              case i46 => rfl
              case q46 => exact fun _ _ _ h => h
              case w46 => rfl
              case y46 => (intro w hSw; go_simp) <;> with_reducible rfl
              try simp only [Act.put, List.setIfInBounds_toArray, List.set_cons_zero, List.set_cons_succ]
              refine wpAnyH_take (i := 21) (oi := ?o47) (v := ?v47) ?i47 (by kernel_rfl) (by kernel_rfl) (by kernel_rfl) ?q47 (Or.inl ⟨?w47, ?y47⟩) (by assumption) ?r47
              case' i47 => simp only [List.getElem?_toArray, List.getElem?_cons_succ, List.getElem?_cons_zero]
              case i47 => rfl
              case q47 => exact fun _ _ _ h => h
              case w47 => rfl
              case y47 => (intro w hSw; obtain ⟨k0, k1, k2, k3, k4⟩ := hSw; go_simp) <;> with_reducible rfl
              try simp only [Act.put, List.setIfInBounds_toArray, List.set_cons_zero, List.set_cons_succ]
              refine wpAnyH_take (i := 22) (oi := ?o48) (v := ?v48) ?i48 (by kernel_rfl) (by kernel_rfl) (by kernel_rfl) ?q48 (Or.inl ⟨?w48, ?y48⟩) (by assumption) ?r48
              case' i48 => simp only [List.getElem?_toArray, List.getElem?_cons_succ, List.getElem?_cons_zero]
              case i48 => rfl
              case q48 => exact fun _ _ _ h => h
              case w48 => rfl
              case y48 => (intro w hSw; go_simp) <;> with_reducible rfl
              try simp only [Act.put, List.setIfInBounds_toArray, List.set_cons_zero, List.set_cons_succ]
              refine wpAnyH_take (i := 23) (oi := ?o49) (v := ?v49) ?i49 (by kernel_rfl) (by kernel_rfl) (by kernel_rfl) ?q49 (Or.inl ⟨?w49, ?y49⟩) (by assumption) ?r49
              case' i49 => simp only [List.getElem?_toArray, List.getElem?_cons_succ, List.getElem?_cons_zero]
              case i49 => rfl
              case q49 => exact fun _ _ _ h => h
              case w49 => rfl
              case y49 => (intro w hSw; go_simp) <;> with_reducible rfl
              try simp only [Act.put, List.setIfInBounds_toArray, List.set_cons_zero, List.set_cons_succ]
              refine wpAnyH_take (i := 24) (oi := ?o50) (v := ?v50) ?i50 (by kernel_rfl) (by kernel_rfl) (by kernel_rfl) ?q50 (Or.inl ⟨?w50, ?y50⟩) (by assumption) ?r50
              case' i50 => simp only [List.getElem?_toArray, List.getElem?_cons_succ, List.getElem?_cons_zero]
              case i50 => rfl
              case q50 => exact fun _ _ _ h => h
              case w50 => rfl
              case y50 => (intro w hSw; go_simp) <;> with_reducible rfl
              try simp only [Act.put, List.setIfInBounds_toArray, List.set_cons_zero, List.set_cons_succ]
              refine wpAnyH_done (by kernel_rfl) ?_ _
              clear hHeld
              go_wp2_with fail
              go_roundw
              case rel => exact ⟨k + 1, by have := HK.out; omega, by go_num, HOK2, HBB⟩
              case measure => have := HK.out; simp [intOf]; omega
            · have q3 : (ix != (k : Int)) = true := by simp [hb1]
              have HJ2 : Hid (wholeF fs = false) := Lib.hid (whole_bad (k := k) HKN.out (by
                cases hq : okAt (fs.getD 0 zeroF).id fs.length k (fs.getD k zeroF) with
                | false => rfl
                | true =>
                  rw [HID.out, HZ.out] at hq
                  obtain ⟨q1, q2, q3, q4⟩ := okAt_iff.1 hq
                  dsimp only at q2 q3 q4
                  have := HN.out
                  first | (rw [HRT.out] at q1; exact absurd q1 (by decide)) | (exact absurd q2 hb1) | (exact absurd (by rw [q3, ← HN.out]) hb1) | (exact absurd q4 hb1)))
              clear hb1
              refine wp_region_held_drew (S := fun u => u.cell? ⟨q, 0, none⟩ = some (.int .u64 id) ∧ u.cell? ⟨q, 1, none⟩ = some (.int .i64 ix) ∧ u.cell? ⟨q, 2, none⟩ = some (.int .i64 ct) ∧ u.cell? ⟨q, 3, none⟩ = some (.string s) ∧ u.cell? ⟨bk, off, none⟩ = some (.int .u64 id0)) (by kernel_rfl) HC.out (fun hHeld => ?_)
              have HBB := Lib.hid (below_drewn HB.out)
              clear HB HC
              refine wpAnyH_take (i := 0) (oi := ?o51) (v := ?v51) ?i51 (by kernel_rfl) (by kernel_rfl) (by kernel_rfl) ?q51 (Or.inl ⟨?w51, ?y51⟩) (by assumption) ?r51
              case' i51 => simp only [List.getElem?_toArray, List.getElem?_cons_succ, List.getElem?_cons_zero]
              case i51 => rfl
              case q51 => exact fun _ _ _ h => h
              case w51 => rfl
              case y51 => (intro w hSw; obtain ⟨k0, k1, k2, k3, k4⟩ := hSw; go_simp) <;> with_reducible rfl
              try simp only [Act.put, List.setIfInBounds_toArray, List.set_cons_zero, List.set_cons_succ]
              refine wpAnyH_ready (rs := [1]) (by kernel_rfl) (by simp) ?_
              refine AllReadyH.cons (o := ?o52) ?i52 (fun K' hK => ?_) AllReadyH.nil
              case' i52 => simp only [List.getElem?_toArray, List.getElem?_cons_succ, List.getElem?_cons_zero]
              case i52 => rfl
              go_simp
              go_at_call 25
              refine (right_f id ix ct s _ HSZ.out true HRT).mono ?_
              rintro e w' ⟨rfl, hb⟩
              have HBB' := Lib.hid (HBB.out.trans (hb.mono HBB.out.size))
              have hHeld' : w'.cell? ⟨q, 0, none⟩ = some (.int .u64 id) ∧ w'.cell? ⟨q, 1, none⟩ = some (.int .i64 ix) ∧ w'.cell? ⟨q, 2, none⟩ = some (.int .i64 ct) ∧ w'.cell? ⟨q, 3, none⟩ = some (.string s) ∧ w'.cell? ⟨bk, off, none⟩ = some (.int .u64 id0) := ⟨(hb.cell (block_lt_of_cell hHeld.1)).trans hHeld.1, (hb.cell (block_lt_of_cell hHeld.2.1)).trans hHeld.2.1, (hb.cell (block_lt_of_cell hHeld.2.2.1)).trans hHeld.2.2.1, (hb.cell (block_lt_of_cell hHeld.2.2.2.1)).trans hHeld.2.2.2.1, (hb.cell (block_lt_of_cell hHeld.2.2.2.2)).trans hHeld.2.2.2.2⟩
              clear HBB hb
              have HBB := HBB'
              clear HBB'
              go_wp2_with fail
              refine hK.out _ _ hHeld' (fun _ => ?_)
              clear hK K' hHeld
              have hHeld := hHeld'
              clear hHeld'
              try simp only [Act.put, List.setIfInBounds_toArray, List.set_cons_zero, List.set_cons_succ]
              refine wpAnyH_take (i := 2) (oi := ?o53) (v := ?v53) ?i53 (by kernel_rfl) (by kernel_rfl) (by kernel_rfl) ?q53 (Or.inl ⟨?w53, ?y53⟩) (by assumption) ?r53
              case' i53 => simp only [List.getElem?_toArray, List.getElem?_cons_succ, List.getElem?_cons_zero]
              case i53 => rfl
              case q53 => exact fun _ _ _ h => h
              case w53 => rfl
              case y53 => (intro w hSw; go_simp) <;> with_reducible rfl
              try simp only [Act.put, List.setIfInBounds_toArray, List.set_cons_zero, List.set_cons_succ]
              refine wpAnyH_take (i := 3) (oi := ?o54) (v := ?v54) ?i54 (by kernel_rfl) (by kernel_rfl) (by kernel_rfl) ?q54 (Or.inl ⟨?w54, ?y54⟩) (by assumption) ?r54
              case' i54 => simp only [List.getElem?_toArray, List.getElem?_cons_succ, List.getElem?_cons_zero]
              case i54 => rfl
              case q54 => exact fun _ _ _ h => h
              case w54 => rfl
              case y54 => (intro w hSw; go_simp) <;> with_reducible rfl
              try simp only [Act.put, List.setIfInBounds_toArray, List.set_cons_zero, List.set_cons_succ]
              refine wpAnyH_take (i := 4) (oi := ?o55) (v := ?v55) ?i55 (by kernel_rfl) (by kernel_rfl) (by kernel_rfl) ?q55 (Or.inl ⟨?w55, ?y55⟩) (by assumption) ?r55
              case' i55 => simp only [List.getElem?_toArray, List.getElem?_cons_succ, List.getElem?_cons_zero]
              case i55 => rfl
              case q55 => exact fun _ _ _ h => h
              case w55 => rfl
              case y55 => (intro w hSw; go_simp) <;> with_reducible rfl
              try simp only [Act.put, List.setIfInBounds_toArray, List.set_cons_zero, List.set_cons_succ]
              refine wpAnyH_take (i := 5) (oi := ?o56) (v := ?v56) ?i56 (by kernel_rfl) (by kernel_rfl) (by kernel_rfl) ?q56 (Or.inl ⟨?w56, ?y56⟩) (by assumption) ?r56
              case' i56 => simp only [List.getElem?_toArray, List.getElem?_cons_succ, List.getElem?_cons_zero]
              case i56 => rfl
              case q56 => exact fun _ _ _ h => h
              case w56 => rfl
              case y56 => (intro w hSw; obtain ⟨k0, k1, k2, k3, k4⟩ := hSw; go_simp) <;> with_reducible rfl
              try simp only [Act.put, List.setIfInBounds_toArray, List.set_cons_zero, List.set_cons_succ]
              refine wpAnyH_take (i := 6) (oi := ?o57) (v := ?v57) ?i57 (by kernel_rfl) (by kernel_rfl) (by kernel_rfl) ?q57 (Or.inl ⟨?w57, ?y57⟩) (by assumption) ?r57
              case' i57 => simp only [List.getElem?_toArray, List.getElem?_cons_succ, List.getElem?_cons_zero]
              case i57 => rfl
              case q57 => exact fun _ _ _ h => h
              case w57 => rfl
              case y57 => (intro w hSw; go_simp) <;> with_reducible rfl
              try simp only [Act.put, List.setIfInBounds_toArray, List.set_cons_zero, List.set_cons_succ]
              refine wpAnyH_take (i := 7) (oi := ?o58) (v := ?v58) ?i58 (by kernel_rfl) (by kernel_rfl) (by kernel_rfl) ?q58 (Or.inl ⟨?w58, ?y58⟩) (by assumption) ?r58
              case' i58 => simp only [List.getElem?_toArray, List.getElem?_cons_succ, List.getElem?_cons_zero]
              case i58 => rfl
              case q58 => exact fun _ _ _ h => h
              case w58 => rfl
              case y58 => (intro w hSw; go_simp) <;> with_reducible rfl
              try simp only [Act.put, List.setIfInBounds_toArray, List.set_cons_zero, List.set_cons_succ]
              refine wpAnyH_take (i := 8) (oi := ?o59) (v := ?v59) ?i59 (by kernel_rfl) (by kernel_rfl) (by kernel_rfl) ?q59 (Or.inl ⟨?w59, ?y59⟩) (by assumption) ?r59
              case' i59 => simp only [List.getElem?_toArray, List.getElem?_cons_succ, List.getElem?_cons_zero]
              case i59 => rfl
              case q59 => exact fun _ _ _ h => h
              case w59 => rfl
              case y59 => (intro w hSw; go_simp) <;> with_reducible rfl
              try simp only [Act.put, List.setIfInBounds_toArray, List.set_cons_zero, List.set_cons_succ]
              refine wpAnyH_take (i := 9) (oi := ?o60) (v := ?v60) ?i60 (by kernel_rfl) (by kernel_rfl) (by kernel_rfl) ?q60 (Or.inl ⟨?w60, ?y60⟩) (by assumption) ?r60
              case' i60 => simp only [List.getElem?_toArray, List.getElem?_cons_succ, List.getElem?_cons_zero]
              case i60 => rfl
              case q60 => exact fun _ _ _ h => h
              case w60 => rfl
              case y60 => (intro w hSw; obtain ⟨k0, k1, k2, k3, k4⟩ := hSw; go_simp) <;> with_reducible rfl
              try simp only [Act.put, List.setIfInBounds_toArray, List.set_cons_zero, List.set_cons_succ]
              refine wpAnyH_take (i := 10) (oi := ?o61) (v := ?v61) ?i61 (by kernel_rfl) (by kernel_rfl) (by kernel_rfl) ?q61 (Or.inl ⟨?w61, ?y61⟩) (by assumption) ?r61
              case' i61 => simp only [List.getElem?_toArray, List.getElem?_cons_succ, List.getElem?_cons_zero]
              case i61 => rfl
              case q61 => exact fun _ _ _ h => h
              case w61 => rfl
              case y61 => (intro w hSw; go_simp) <;> with_reducible rfl
              try simp only [Act.put, List.setIfInBounds_toArray, List.set_cons_zero, List.set_cons_succ]
              refine wpAnyH_take (i := 11) (oi := ?o62) (v := ?v62) ?i62 (by kernel_rfl) (by kernel_rfl) (by kernel_rfl) ?q62 (Or.inl ⟨?w62, ?y62⟩) (by assumption) ?r62
              case' i62 => simp only [List.getElem?_toArray, List.getElem?_cons_succ, List.getElem?_cons_zero]
              case i62 => rfl
              case q62 => exact fun _ _ _ h => h
              case w62 => rfl
              case y62 => (intro w hSw; go_simp) <;> with_reducible rfl
              try simp only [Act.put, List.setIfInBounds_toArray, List.set_cons_zero, List.set_cons_succ]
              refine wpAnyH_take (i := 12) (oi := ?o63) (v := ?v63) ?i63 (by kernel_rfl) (by kernel_rfl) (by kernel_rfl) ?q63 (Or.inl ⟨?w63, ?y63⟩) (by assumption) ?r63
              case' i63 => simp only [List.getElem?_toArray, List.getElem?_cons_succ, List.getElem?_cons_zero]
              case i63 => rfl
              case q63 => exact fun _ _ _ h => h
              case w63 => rfl
              case y63 => (intro w hSw; go_simp) <;> with_reducible rfl
              try simp only [Act.put, List.setIfInBounds_toArray, List.set_cons_zero, List.set_cons_succ]
              refine wpAnyH_take (i := 13) (oi := ?o64) (v := ?v64) ?i64 (by kernel_rfl) (by kernel_rfl) (by kernel_rfl) ?q64 (Or.inl ⟨?w64, ?y64⟩) (by assumption) ?r64
              case' i64 => simp only [List.getElem?_toArray, List.getElem?_cons_succ, List.getElem?_cons_zero]
              case i64 => rfl
              case q64 => exact fun _ _ _ h => h
              case w64 => rfl
              case y64 => (intro w hSw; go_simp) <;> with_reducible rfl
              try simp only [Act.put, List.setIfInBounds_toArray, List.set_cons_zero, List.set_cons_succ]
              refine wpAnyH_take (i := 14) (oi := ?o65) (v := ?v65) ?i65 (by kernel_rfl) (by kernel_rfl) (by kernel_rfl) ?q65 (Or.inl ⟨?w65, ?y65⟩) (by assumption) ?r65
              case' i65 => simp only [List.getElem?_toArray, List.getElem?_cons_succ, List.getElem?_cons_zero]
              case i65 => rfl
              case q65 => exact fun _ _ _ h => h
              case w65 => rfl
              case y65 => (intro w hSw; obtain ⟨k0, k1, k2, k3, k4⟩ := hSw; go_simp) <;> with_reducible rfl
              try simp only [Act.put, List.setIfInBounds_toArray, List.set_cons_zero, List.set_cons_succ]
              refine wpAnyH_take (i := 15) (oi := ?o66) (v := ?v66) ?i66 (by kernel_rfl) (by kernel_rfl) (by kernel_rfl) ?q66 (Or.inl ⟨?w66, ?y66⟩) (by assumption) ?r66
              case' i66 => simp only [List.getElem?_toArray, List.getElem?_cons_succ, List.getElem?_cons_zero]
              case i66 => rfl
              case q66 => exact fun _ _ _ h => h
              case w66 => rfl
              case y66 => (intro w hSw; go_simp) <;> with_reducible rfl
              try simp only [Act.put, List.setIfInBounds_toArray, List.set_cons_zero, List.set_cons_succ]
              refine wpAnyH_take (i := 16) (oi := ?o67) (v := ?v67) ?i67 (by kernel_rfl) (by kernel_rfl) (by kernel_rfl) ?q67 (Or.inl ⟨?w67, ?y67⟩) (by assumption) ?r67
              case' i67 => simp only [List.getElem?_toArray, List.getElem?_cons_succ, List.getElem?_cons_zero]
              case i67 => rfl
              case q67 => exact fun _ _ _ h => h
              case w67 => rfl
              case y67 => (intro w hSw; go_simp) <;> with_reducible rfl
              try simp only [Act.put, List.setIfInBounds_toArray, List.set_cons_zero, List.set_cons_succ]
              refine wpAnyH_take (i := 17) (oi := ?o68) (v := ?v68) ?i68 (by kernel_rfl) (by kernel_rfl) (by kernel_rfl) ?q68 (Or.inl ⟨?w68, ?y68⟩) (by assumption) ?r68
              case' i68 => simp only [List.getElem?_toArray, List.getElem?_cons_succ, List.getElem?_cons_zero]
              case i68 => rfl
              case q68 => exact fun _ _ _ h => h
              case w68 => rfl
              case y68 => (intro w hSw; go_simp) <;> with_reducible rfl
              try simp only [Act.put, List.setIfInBounds_toArray, List.set_cons_zero, List.set_cons_succ]
              refine wpAnyH_take (i := 18) (oi := ?o69) (v := ?v69) ?i69 (by kernel_rfl) (by kernel_rfl) (by kernel_rfl) ?q69 (Or.inl ⟨?w69, ?y69⟩) (by assumption) ?r69
              case' i69 => simp only [List.getElem?_toArray, List.getElem?_cons_succ, List.getElem?_cons_zero]
              case i69 => rfl
              case q69 => exact fun _ _ _ h => h
              case w69 => rfl
              case y69 => (intro w hSw; go_simp) <;> with_reducible rfl
              try simp only [Act.put, List.setIfInBounds_toArray, List.set_cons_zero, List.set_cons_succ]
              refine wpAnyH_take (i := 19) (oi := ?o70) (v := ?v70) ?i70 (by kernel_rfl) (by kernel_rfl) (by kernel_rfl) ?q70 (Or.inl ⟨?w70, ?y70⟩) (by assumption) ?r70
              case' i70 => simp only [List.getElem?_toArray, List.getElem?_cons_succ, List.getElem?_cons_zero]
              case i70 => rfl
              case q70 => exact fun _ _ _ h => h
              case w70 => rfl
              case y70 => (intro w hSw; go_simp) <;> with_reducible rfl
              try simp only [Act.put, List.setIfInBounds_toArray, List.set_cons_zero, List.set_cons_succ]
              refine wpAnyH_take (i := 20) (oi := ?o71) (v := ?v71) ?i71 (by kernel_rfl) (by kernel_rfl) (by kernel_rfl) ?q71 (Or.inl ⟨?w71, ?y71⟩) (by assumption) ?r71
              case' i71 => simp only [List.getElem?_toArray, List.getElem?_cons_succ, List.getElem?_cons_zero]
              case i71 => rfl
              case q71 => exact fun _ _ _ h => h
              case w71 => rfl
              case y71 => (intro w hSw; go_simp) <;> with_reducible rfl
              try simp only [Act.put, List.setIfInBounds_toArray, List.set_cons_zero, List.set_cons_succ]
              refine wpAnyH_take (i := 21) (oi := ?o72) (v := ?v72) ?i72 (by kernel_rfl) (by kernel_rfl) (by kernel_rfl) ?q72 (Or.inl ⟨?w72, ?y72⟩) (by assumption) ?r72
              case' i72 => simp only [List.getElem?_toArray, List.getElem?_cons_succ, List.getElem?_cons_zero]
              case i72 => rfl
              case q72 => exact fun _ _ _ h => h
              case w72 => rfl
              case y72 => (intro w hSw; obtain ⟨k0, k1, k2, k3, k4⟩ := hSw; go_simp) <;> with_reducible rfl
              try simp only [Act.put, List.setIfInBounds_toArray, List.set_cons_zero, List.set_cons_succ]
              refine wpAnyH_take (i := 22) (oi := ?o73) (v := ?v73) ?i73 (by kernel_rfl) (by kernel_rfl) (by kernel_rfl) ?q73 (Or.inl ⟨?w73, ?y73⟩) (by assumption) ?r73
              case' i73 => simp only [List.getElem?_toArray, List.getElem?_cons_succ, List.getElem?_cons_zero]
              case i73 => rfl
              case q73 => exact fun _ _ _ h => h
              case w73 => rfl
              case y73 => (intro w hSw; go_simp) <;> with_reducible rfl
              try simp only [Act.put, List.setIfInBounds_toArray, List.set_cons_zero, List.set_cons_succ]
              refine wpAnyH_take (i := 23) (oi := ?o74) (v := ?v74) ?i74 (by kernel_rfl) (by kernel_rfl) (by kernel_rfl) ?q74 (Or.inl ⟨?w74, ?y74⟩) (by assumption) ?r74
              case' i74 => simp only [List.getElem?_toArray, List.getElem?_cons_succ, List.getElem?_cons_zero]
              case i74 => rfl
              case q74 => exact fun _ _ _ h => h
              case w74 => rfl
              case y74 => (intro w hSw; go_simp) <;> with_reducible rfl
              try simp only [Act.put, List.setIfInBounds_toArray, List.set_cons_zero, List.set_cons_succ]
              refine wpAnyH_take (i := 24) (oi := ?o75) (v := ?v75) ?i75 (by kernel_rfl) (by kernel_rfl) (by kernel_rfl) ?q75 (Or.inl ⟨?w75, ?y75⟩) (by assumption) ?r75
              case' i75 => simp only [List.getElem?_toArray, List.getElem?_cons_succ, List.getElem?_cons_zero]
              case i75 => rfl
              case q75 => exact fun _ _ _ h => h
              case w75 => rfl
              case y75 => (intro w hSw; go_simp) <;> with_reducible rfl
              try simp only [Act.put, List.setIfInBounds_toArray, List.set_cons_zero, List.set_cons_succ]
              refine wpAnyH_done (by kernel_rfl) ?_ _
              clear hHeld
              go_wp2
              go_ret
              exact ⟨by rw [← HJ.out, HJ2.out]; rfl, HBB.out⟩
          · have q2 : (ct != (n : Int)) = true := by simp [hb1]
            have HJ2 : Hid (wholeF fs = false) := Lib.hid (whole_bad (k := k) HKN.out (by
              cases hq : okAt (fs.getD 0 zeroF).id fs.length k (fs.getD k zeroF) with
              | false => rfl
              | true =>
                rw [HID.out, HZ.out] at hq
                obtain ⟨q1, q2, q3, q4⟩ := okAt_iff.1 hq
                dsimp only at q2 q3 q4
                have := HN.out
                first | (rw [HRT.out] at q1; exact absurd q1 (by decide)) | (exact absurd q2 hb1) | (exact absurd (by rw [q3, ← HN.out]) hb1) | (exact absurd q4 hb1)))
            clear hb1
            refine wp_region_held_drew (S := fun u => u.cell? ⟨q, 0, none⟩ = some (.int .u64 id) ∧ u.cell? ⟨q, 1, none⟩ = some (.int .i64 ix) ∧ u.cell? ⟨q, 2, none⟩ = some (.int .i64 ct) ∧ u.cell? ⟨q, 3, none⟩ = some (.string s) ∧ u.cell? ⟨bk, off, none⟩ = some (.int .u64 id0)) (by kernel_rfl) HC.out (fun hHeld => ?_)
            have HBB := Lib.hid (below_drewn HB.out)
            clear HB HC
            refine wpAnyH_take (i := 0) (oi := ?o76) (v := ?v76) ?i76 (by kernel_rfl) (by kernel_rfl) (by kernel_rfl) ?q76 (Or.inl ⟨?w76, ?y76⟩) (by assumption) ?r76
            case' i76 => simp only [List.getElem?_toArray, List.getElem?_cons_succ, List.getElem?_cons_zero]
            case i76 => rfl
            case q76 => exact fun _ _ _ h => h
            case w76 => rfl
            case y76 => (intro w hSw; obtain ⟨k0, k1, k2, k3, k4⟩ := hSw; go_simp) <;> with_reducible rfl
            try simp only [Act.put, List.setIfInBounds_toArray, List.set_cons_zero, List.set_cons_succ]
            refine wpAnyH_ready (rs := [1]) (by kernel_rfl) (by simp) ?_
            refine AllReadyH.cons (o := ?o77) ?i77 (fun K' hK => ?_) AllReadyH.nil
            case' i77 => simp only [List.getElem?_toArray, List.getElem?_cons_succ, List.getElem?_cons_zero]
            case i77 => rfl
            go_simp
            go_at_call 25
            refine (right_f id ix ct s _ HSZ.out true HRT).mono ?_
            rintro e w' ⟨rfl, hb⟩
            have HBB' := Lib.hid (HBB.out.trans (hb.mono HBB.out.size))
            have hHeld' : w'.cell? ⟨q, 0, none⟩ = some (.int .u64 id) ∧ w'.cell? ⟨q, 1, none⟩ = some (.int .i64 ix) ∧ w'.cell? ⟨q, 2, none⟩ = some (.int .i64 ct) ∧ w'.cell? ⟨q, 3, none⟩ = some (.string s) ∧ w'.cell? ⟨bk, off, none⟩ = some (.int .u64 id0) := ⟨(hb.cell (block_lt_of_cell hHeld.1)).trans hHeld.1, (hb.cell (block_lt_of_cell hHeld.2.1)).trans hHeld.2.1, (hb.cell (block_lt_of_cell hHeld.2.2.1)).trans hHeld.2.2.1, (hb.cell (block_lt_of_cell hHeld.2.2.2.1)).trans hHeld.2.2.2.1, (hb.cell (block_lt_of_cell hHeld.2.2.2.2)).trans hHeld.2.2.2.2⟩
            clear HBB hb
            have HBB := HBB'
            clear HBB'
            go_wp2_with fail
            refine hK.out _ _ hHeld' (fun _ => ?_)
            clear hK K' hHeld
            have hHeld := hHeld'
            clear hHeld'
            try simp only [Act.put, List.setIfInBounds_toArray, List.set_cons_zero, List.set_cons_succ]
            refine wpAnyH_take (i := 2) (oi := ?o78) (v := ?v78) ?i78 (by kernel_rfl) (by kernel_rfl) (by kernel_rfl) ?q78 (Or.inl ⟨?w78, ?y78⟩) (by assumption) ?r78
            case' i78 => simp only [List.getElem?_toArray, List.getElem?_cons_succ, List.getElem?_cons_zero]
            case i78 => rfl
            case q78 => exact fun _ _ _ h => h
            case w78 => rfl
            case y78 => (intro w hSw; go_simp) <;> with_reducible rfl
            try simp only [Act.put, List.setIfInBounds_toArray, List.set_cons_zero, List.set_cons_succ]
            refine wpAnyH_take (i := 3) (oi := ?o79) (v := ?v79) ?i79 (by kernel_rfl) (by kernel_rfl) (by kernel_rfl) ?q79 (Or.inl ⟨?w79, ?y79⟩) (by assumption) ?r79
            case' i79 => simp only [List.getElem?_toArray, List.getElem?_cons_succ, List.getElem?_cons_zero]
            case i79 => rfl
            case q79 => exact fun _ _ _ h => h
            case w79 => rfl
            case y79 => (intro w hSw; go_simp) <;> with_reducible rfl
            try simp only [Act.put, List.setIfInBounds_toArray, List.set_cons_zero, List.set_cons_succ]
            refine wpAnyH_take (i := 4) (oi := ?o80) (v := ?v80) ?i80 (by kernel_rfl) (by kernel_rfl) (by kernel_rfl) ?q80 (Or.inl ⟨?w80, ?y80⟩) (by assumption) ?r80
            case' i80 => simp only [List.getElem?_toArray, List.getElem?_cons_succ, List.getElem?_cons_zero]
            case i80 => rfl
            case q80 => exact fun _ _ _ h => h
            case w80 => rfl
            case y80 => (intro w hSw; go_simp) <;> with_reducible rfl
            try simp only [Act.put, List.setIfInBounds_toArray, List.set_cons_zero, List.set_cons_succ]
            refine wpAnyH_take (i := 5) (oi := ?o81) (v := ?v81) ?i81 (by kernel_rfl) (by kernel_rfl) (by kernel_rfl) ?q81 (Or.inl ⟨?w81, ?y81⟩) (by assumption) ?r81
            case' i81 => simp only [List.getElem?_toArray, List.getElem?_cons_succ, List.getElem?_cons_zero]
            case i81 => rfl
            case q81 => exact fun _ _ _ h => h
            case w81 => rfl
            case y81 => (intro w hSw; obtain ⟨k0, k1, k2, k3, k4⟩ := hSw; go_simp) <;> with_reducible rfl
            try simp only [Act.put, List.setIfInBounds_toArray, List.set_cons_zero, List.set_cons_succ]
            refine wpAnyH_take (i := 6) (oi := ?o82) (v := ?v82) ?i82 (by kernel_rfl) (by kernel_rfl) (by kernel_rfl) ?q82 (Or.inl ⟨?w82, ?y82⟩) (by assumption) ?r82
            case' i82 => simp only [List.getElem?_toArray, List.getElem?_cons_succ, List.getElem?_cons_zero]
            case i82 => rfl
            case q82 => exact fun _ _ _ h => h
            case w82 => rfl
            case y82 => (intro w hSw; go_simp) <;> with_reducible rfl
            try simp only [Act.put, List.setIfInBounds_toArray, List.set_cons_zero, List.set_cons_succ]
            refine wpAnyH_take (i := 7) (oi := ?o83) (v := ?v83) ?i83 (by kernel_rfl) (by kernel_rfl) (by kernel_rfl) ?q83 (Or.inl ⟨?w83, ?y83⟩) (by assumption) ?r83
            case' i83 => simp only [List.getElem?_toArray, List.getElem?_cons_succ, List.getElem?_cons_zero]
            case i83 => rfl
            case q83 => exact fun _ _ _ h => h
            case w83 => rfl
            case y83 => (intro w hSw; go_simp) <;> with_reducible rfl
            try simp only [Act.put, List.setIfInBounds_toArray, List.set_cons_zero, List.set_cons_succ]
            refine wpAnyH_take (i := 8) (oi := ?o84) (v := ?v84) ?i84 (by kernel_rfl) (by kernel_rfl) (by kernel_rfl) ?q84 (Or.inl ⟨?w84, ?y84⟩) (by assumption) ?r84
            case' i84 => simp only [List.getElem?_toArray, List.getElem?_cons_succ, List.getElem?_cons_zero]
            case i84 => rfl
            case q84 => exact fun _ _ _ h => h
            case w84 => rfl
            case y84 => (intro w hSw; go_simp) <;> with_reducible rfl
            try simp only [Act.put, List.setIfInBounds_toArray, List.set_cons_zero, List.set_cons_succ]
            refine wpAnyH_take (i := 9) (oi := ?o85) (v := ?v85) ?i85 (by kernel_rfl) (by kernel_rfl) (by kernel_rfl) ?q85 (Or.inl ⟨?w85, ?y85⟩) (by assumption) ?r85
            case' i85 => simp only [List.getElem?_toArray, List.getElem?_cons_succ, List.getElem?_cons_zero]
            case i85 => rfl
            case q85 => exact fun _ _ _ h => h
            case w85 => rfl
            case y85 => (intro w hSw; obtain ⟨k0, k1, k2, k3, k4⟩ := hSw; go_simp) <;> with_reducible rfl
            try simp only [Act.put, List.setIfInBounds_toArray, List.set_cons_zero, List.set_cons_succ]
            refine wpAnyH_take (i := 10) (oi := ?o86) (v := ?v86) ?i86 (by kernel_rfl) (by kernel_rfl) (by kernel_rfl) ?q86 (Or.inl ⟨?w86, ?y86⟩) (by assumption) ?r86
            case' i86 => simp only [List.getElem?_toArray, List.getElem?_cons_succ, List.getElem?_cons_zero]
            case i86 => rfl
            case q86 => exact fun _ _ _ h => h
            case w86 => rfl
            case y86 => (intro w hSw; go_simp) <;> with_reducible rfl
            try simp only [Act.put, List.setIfInBounds_toArray, List.set_cons_zero, List.set_cons_succ]
            refine wpAnyH_take (i := 11) (oi := ?o87) (v := ?v87) ?i87 (by kernel_rfl) (by kernel_rfl) (by kernel_rfl) ?q87 (Or.inl ⟨?w87, ?y87⟩) (by assumption) ?r87
            case' i87 => simp only [List.getElem?_toArray, List.getElem?_cons_succ, List.getElem?_cons_zero]
            case i87 => rfl
            case q87 => exact fun _ _ _ h => h
            case w87 => rfl
            case y87 => (intro w hSw; go_simp) <;> with_reducible rfl
            try simp only [Act.put, List.setIfInBounds_toArray, List.set_cons_zero, List.set_cons_succ]
            refine wpAnyH_take (i := 12) (oi := ?o88) (v := ?v88) ?i88 (by kernel_rfl) (by kernel_rfl) (by kernel_rfl) ?q88 (Or.inl ⟨?w88, ?y88⟩) (by assumption) ?r88
            case' i88 => simp only [List.getElem?_toArray, List.getElem?_cons_succ, List.getElem?_cons_zero]
            case i88 => rfl
            case q88 => exact fun _ _ _ h => h
            case w88 => rfl
            case y88 => (intro w hSw; go_simp) <;> with_reducible rfl
            try simp only [Act.put, List.setIfInBounds_toArray, List.set_cons_zero, List.set_cons_succ]
            refine wpAnyH_take (i := 13) (oi := ?o89) (v := ?v89) ?i89 (by kernel_rfl) (by kernel_rfl) (by kernel_rfl) ?q89 (Or.inl ⟨?w89, ?y89⟩) (by assumption) ?r89
            case' i89 => simp only [List.getElem?_toArray, List.getElem?_cons_succ, List.getElem?_cons_zero]
            case i89 => rfl
            case q89 => exact fun _ _ _ h => h
            case w89 => rfl
            case y89 => (intro w hSw; go_simp) <;> with_reducible rfl
            try simp only [Act.put, List.setIfInBounds_toArray, List.set_cons_zero, List.set_cons_succ]
            refine wpAnyH_take (i := 14) (oi := ?o90) (v := ?v90) ?i90 (by kernel_rfl) (by kernel_rfl) (by kernel_rfl) ?q90 (Or.inl ⟨?w90, ?y90⟩) (by assumption) ?r90
            case' i90 => simp only [List.getElem?_toArray, List.getElem?_cons_succ, List.getElem?_cons_zero]
            case i90 => rfl
            case q90 => exact fun _ _ _ h => h
            case w90 => rfl
            case y90 => (intro w hSw; obtain ⟨k0, k1, k2, k3, k4⟩ := hSw; go_simp) <;> with_reducible rfl
            try simp only [Act.put, List.setIfInBounds_toArray, List.set_cons_zero, List.set_cons_succ]
            refine wpAnyH_take (i := 15) (oi := ?o91) (v := ?v91) ?i91 (by kernel_rfl) (by kernel_rfl) (by kernel_rfl) ?q91 (Or.inl ⟨?w91, ?y91⟩) (by assumption) ?r91
            case' i91 => simp only [List.getElem?_toArray, List.getElem?_cons_succ, List.getElem?_cons_zero]
            case i91 => rfl
            case q91 => exact fun _ _ _ h => h
            case w91 => rfl
            case y91 => (intro w hSw; go_simp) <;> with_reducible rfl
            try simp only [Act.put, List.setIfInBounds_toArray, List.set_cons_zero, List.set_cons_succ]
            refine wpAnyH_take (i := 16) (oi := ?o92) (v := ?v92) ?i92 (by kernel_rfl) (by kernel_rfl) (by kernel_rfl) ?q92 (Or.inl ⟨?w92, ?y92⟩) (by assumption) ?r92
            case' i92 => simp only [List.getElem?_toArray, List.getElem?_cons_succ, List.getElem?_cons_zero]
            case i92 => rfl
            case q92 => exact fun _ _ _ h => h
            case w92 => rfl
            case y92 => (intro w hSw; go_simp) <;> with_reducible rfl
            try simp only [Act.put, List.setIfInBounds_toArray, List.set_cons_zero, List.set_cons_succ]
            refine wpAnyH_take (i := 17) (oi := ?o93) (v := ?v93) ?i93 (by kernel_rfl) (by kernel_rfl) (by kernel_rfl) ?q93 (Or.inl ⟨?w93, ?y93⟩) (by assumption) ?r93
            case' i93 => simp only [List.getElem?_toArray, List.getElem?_cons_succ, List.getElem?_cons_zero]
            case i93 => rfl
            case q93 => exact fun _ _ _ h => h
            case w93 => rfl
            case y93 => (intro w hSw; go_simp) <;> with_reducible rfl
            try simp only [Act.put, List.setIfInBounds_toArray, List.set_cons_zero, List.set_cons_succ]
            refine wpAnyH_take (i := 18) (oi := ?o94) (v := ?v94) ?i94 (by kernel_rfl) (by kernel_rfl) (by kernel_rfl) ?q94 (Or.inl ⟨?w94, ?y94⟩) (by assumption) ?r94
            case' i94 => simp only [List.getElem?_toArray, List.getElem?_cons_succ, List.getElem?_cons_zero]
            case i94 => rfl
            case q94 => exact fun _ _ _ h => h
            case w94 => rfl
            case y94 => (intro w hSw; go_simp) <;> with_reducible rfl
            try simp only [Act.put, List.setIfInBounds_toArray, List.set_cons_zero, List.set_cons_succ]
            refine wpAnyH_take (i := 19) (oi := ?o95) (v := ?v95) ?i95 (by kernel_rfl) (by kernel_rfl) (by kernel_rfl) ?q95 (Or.inl ⟨?w95, ?y95⟩) (by assumption) ?r95
            case' i95 => simp only [List.getElem?_toArray, List.getElem?_cons_succ, List.getElem?_cons_zero]
            case i95 => rfl
            case q95 => exact fun _ _ _ h => h
            case w95 => rfl
            case y95 => (intro w hSw; go_simp) <;> with_reducible rfl
            try simp only [Act.put, List.setIfInBounds_toArray, List.set_cons_zero, List.set_cons_succ]
            refine wpAnyH_take (i := 20) (oi := ?o96) (v := undef) ?i96 (by kernel_rfl) (by kernel_rfl) (by kernel_rfl) ?q96 (Or.inr ⟨?w96, rfl⟩) (by assumption) ?r96
            case' i96 => simp only [List.getElem?_toArray, List.getElem?_cons_succ, List.getElem?_cons_zero]
            case i96 => rfl
            case q96 => exact fun _ _ _ h => h
            case w96 => rfl
            try simp only [Act.put, List.setIfInBounds_toArray, List.set_cons_zero, List.set_cons_succ]
            refine wpAnyH_take (i := 21) (oi := ?o97) (v := undef) ?i97 (by kernel_rfl) (by kernel_rfl) (by kernel_rfl) ?q97 (Or.inr ⟨?w97, rfl⟩) (by assumption) ?r97
            case' i97 => simp only [List.getElem?_toArray, List.getElem?_cons_succ, List.getElem?_cons_zero]
            case i97 => rfl
            case q97 => exact fun _ _ _ h => h
            case w97 => rfl
            try simp only [Act.put, List.setIfInBounds_toArray, List.set_cons_zero, List.set_cons_succ]
            refine wpAnyH_take (i := 22) (oi := ?o98) (v := undef) ?i98 (by kernel_rfl) (by kernel_rfl) (by kernel_rfl) ?q98 (Or.inr ⟨?w98, rfl⟩) (by assumption) ?r98
            case' i98 => simp only [List.getElem?_toArray, List.getElem?_cons_succ, List.getElem?_cons_zero]
            case i98 => rfl
            case q98 => exact fun _ _ _ h => h
            case w98 => rfl
            try simp only [Act.put, List.setIfInBounds_toArray, List.set_cons_zero, List.set_cons_succ]
            refine wpAnyH_take (i := 23) (oi := ?o99) (v := undef) ?i99 (by kernel_rfl) (by kernel_rfl) (by kernel_rfl) ?q99 (Or.inr ⟨?w99, rfl⟩) (by assumption) ?r99
            case' i99 => simp only [List.getElem?_toArray, List.getElem?_cons_succ, List.getElem?_cons_zero]
            case i99 => rfl
            case q99 => exact fun _ _ _ h => h
            case w99 => rfl
            try simp only [Act.put, List.setIfInBounds_toArray, List.set_cons_zero, List.set_cons_succ]
            refine wpAnyH_take (i := 24) (oi := ?o100) (v := ?v100) ?i100 (by kernel_rfl) (by kernel_rfl) (by kernel_rfl) ?q100 (Or.inl ⟨?w100, ?y100⟩) (by assumption) ?r100
            case' i100 => simp only [List.getElem?_toArray, List.getElem?_cons_succ, List.getElem?_cons_zero]
            case i100 => rfl
            case q100 => exact fun _ _ _ h => h
            case w100 => rfl
            case y100 => (intro w hSw; go_simp) <;> with_reducible rfl
            try simp only [Act.put, List.setIfInBounds_toArray, List.set_cons_zero, List.set_cons_succ]
            refine wpAnyH_done (by kernel_rfl) ?_ _
            clear hHeld
            go_wp2
            go_ret
            exact ⟨by rw [← HJ.out, HJ2.out]; rfl, HBB.out⟩
        · have q1 : (id != id0) = true := by simp [hb1]
          have HJ2 : Hid (wholeF fs = false) := Lib.hid (whole_bad (k := k) HKN.out (by
            cases hq : okAt (fs.getD 0 zeroF).id fs.length k (fs.getD k zeroF) with
            | false => rfl
            | true =>
              rw [HID.out, HZ.out] at hq
              obtain ⟨q1, q2, q3, q4⟩ := okAt_iff.1 hq
              dsimp only at q2 q3 q4
              have := HN.out
              first | (rw [HRT.out] at q1; exact absurd q1 (by decide)) | (exact absurd q2 hb1) | (exact absurd (by rw [q3, ← HN.out]) hb1) | (exact absurd q4 hb1)))
          clear hb1
          refine wp_region_held_drew (S := fun u => u.cell? ⟨q, 0, none⟩ = some (.int .u64 id) ∧ u.cell? ⟨q, 1, none⟩ = some (.int .i64 ix) ∧ u.cell? ⟨q, 2, none⟩ = some (.int .i64 ct) ∧ u.cell? ⟨q, 3, none⟩ = some (.string s) ∧ u.cell? ⟨bk, off, none⟩ = some (.int .u64 id0)) (by kernel_rfl) HC.out (fun hHeld => ?_)
          have HBB := Lib.hid (below_drewn HB.out)
          clear HB HC
          refine wpAnyH_take (i := 0) (oi := ?o101) (v := ?v101) ?i101 (by kernel_rfl) (by kernel_rfl) (by kernel_rfl) ?q101 (Or.inl ⟨?w101, ?y101⟩) (by assumption) ?r101
          case' i101 => simp only [List.getElem?_toArray, List.getElem?_cons_succ, List.getElem?_cons_zero]
          case i101 => rfl
          case q101 => exact fun _ _ _ h => h
          case w101 => rfl
          case y101 => (intro w hSw; obtain ⟨k0, k1, k2, k3, k4⟩ := hSw; go_simp) <;> with_reducible rfl
          try simp only [Act.put, List.setIfInBounds_toArray, List.set_cons_zero, List.set_cons_succ]
          refine wpAnyH_ready (rs := [1]) (by kernel_rfl) (by simp) ?_
          refine AllReadyH.cons (o := ?o102) ?i102 (fun K' hK => ?_) AllReadyH.nil
          case' i102 => simp only [List.getElem?_toArray, List.getElem?_cons_succ, List.getElem?_cons_zero]
          case i102 => rfl
          go_simp
          go_at_call 25
          refine (right_f id ix ct s _ HSZ.out true HRT).mono ?_
          rintro e w' ⟨rfl, hb⟩
          have HBB' := Lib.hid (HBB.out.trans (hb.mono HBB.out.size))
          have hHeld' : w'.cell? ⟨q, 0, none⟩ = some (.int .u64 id) ∧ w'.cell? ⟨q, 1, none⟩ = some (.int .i64 ix) ∧ w'.cell? ⟨q, 2, none⟩ = some (.int .i64 ct) ∧ w'.cell? ⟨q, 3, none⟩ = some (.string s) ∧ w'.cell? ⟨bk, off, none⟩ = some (.int .u64 id0) := ⟨(hb.cell (block_lt_of_cell hHeld.1)).trans hHeld.1, (hb.cell (block_lt_of_cell hHeld.2.1)).trans hHeld.2.1, (hb.cell (block_lt_of_cell hHeld.2.2.1)).trans hHeld.2.2.1, (hb.cell (block_lt_of_cell hHeld.2.2.2.1)).trans hHeld.2.2.2.1, (hb.cell (block_lt_of_cell hHeld.2.2.2.2)).trans hHeld.2.2.2.2⟩
          clear HBB hb
          have HBB := HBB'
          clear HBB'
          go_wp2_with fail
          refine hK.out _ _ hHeld' (fun _ => ?_)
          clear hK K' hHeld
          have hHeld := hHeld'
          clear hHeld'
          try simp only [Act.put, List.setIfInBounds_toArray, List.set_cons_zero, List.set_cons_succ]
          refine wpAnyH_take (i := 2) (oi := ?o103) (v := ?v103) ?i103 (by kernel_rfl) (by kernel_rfl) (by kernel_rfl) ?q103 (Or.inl ⟨?w103, ?y103⟩) (by assumption) ?r103
          case' i103 => simp only [List.getElem?_toArray, List.getElem?_cons_succ, List.getElem?_cons_zero]
          case i103 => rfl
          case q103 => exact fun _ _ _ h => h
          case w103 => rfl
          case y103 => (intro w hSw; go_simp) <;> with_reducible rfl
          try simp only [Act.put, List.setIfInBounds_toArray, List.set_cons_zero, List.set_cons_succ]
          refine wpAnyH_take (i := 3) (oi := ?o104) (v := ?v104) ?i104 (by kernel_rfl) (by kernel_rfl) (by kernel_rfl) ?q104 (Or.inl ⟨?w104, ?y104⟩) (by assumption) ?r104
          case' i104 => simp only [List.getElem?_toArray, List.getElem?_cons_succ, List.getElem?_cons_zero]
          case i104 => rfl
          case q104 => exact fun _ _ _ h => h
          case w104 => rfl
          case y104 => (intro w hSw; go_simp) <;> with_reducible rfl
          try simp only [Act.put, List.setIfInBounds_toArray, List.set_cons_zero, List.set_cons_succ]
          refine wpAnyH_take (i := 4) (oi := ?o105) (v := ?v105) ?i105 (by kernel_rfl) (by kernel_rfl) (by kernel_rfl) ?q105 (Or.inl ⟨?w105, ?y105⟩) (by assumption) ?r105
          case' i105 => simp only [List.getElem?_toArray, List.getElem?_cons_succ, List.getElem?_cons_zero]
          case i105 => rfl
          case q105 => exact fun _ _ _ h => h
          case w105 => rfl
          case y105 => (intro w hSw; go_simp) <;> with_reducible rfl
          try simp only [Act.put, List.setIfInBounds_toArray, List.set_cons_zero, List.set_cons_succ]
          refine wpAnyH_take (i := 5) (oi := ?o106) (v := ?v106) ?i106 (by kernel_rfl) (by kernel_rfl) (by kernel_rfl) ?q106 (Or.inl ⟨?w106, ?y106⟩) (by assumption) ?r106
          case' i106 => simp only [List.getElem?_toArray, List.getElem?_cons_succ, List.getElem?_cons_zero]
          case i106 => rfl
          case q106 => exact fun _ _ _ h => h
          case w106 => rfl
          case y106 => (intro w hSw; obtain ⟨k0, k1, k2, k3, k4⟩ := hSw; go_simp) <;> with_reducible rfl
          try simp only [Act.put, List.setIfInBounds_toArray, List.set_cons_zero, List.set_cons_succ]
          refine wpAnyH_take (i := 6) (oi := ?o107) (v := ?v107) ?i107 (by kernel_rfl) (by kernel_rfl) (by kernel_rfl) ?q107 (Or.inl ⟨?w107, ?y107⟩) (by assumption) ?r107
          case' i107 => simp only [List.getElem?_toArray, List.getElem?_cons_succ, List.getElem?_cons_zero]
          case i107 => rfl
          case q107 => exact fun _ _ _ h => h
          case w107 => rfl
          case y107 => (intro w hSw; go_simp) <;> with_reducible rfl
          try simp only [Act.put, List.setIfInBounds_toArray, List.set_cons_zero, List.set_cons_succ]
          refine wpAnyH_take (i := 7) (oi := ?o108) (v := ?v108) ?i108 (by kernel_rfl) (by kernel_rfl) (by kernel_rfl) ?q108 (Or.inl ⟨?w108, ?y108⟩) (by assumption) ?r108
          case' i108 => simp only [List.getElem?_toArray, List.getElem?_cons_succ, List.getElem?_cons_zero]
          case i108 => rfl
          case q108 => exact fun _ _ _ h => h
          case w108 => rfl
          case y108 => (intro w hSw; go_simp) <;> with_reducible rfl
          try simp only [Act.put, List.setIfInBounds_toArray, List.set_cons_zero, List.set_cons_succ]
          refine wpAnyH_take (i := 8) (oi := ?o109) (v := ?v109) ?i109 (by kernel_rfl) (by kernel_rfl) (by kernel_rfl) ?q109 (Or.inl ⟨?w109, ?y109⟩) (by assumption) ?r109
          case' i109 => simp only [List.getElem?_toArray, List.getElem?_cons_succ, List.getElem?_cons_zero]
          case i109 => rfl
          case q109 => exact fun _ _ _ h => h
          case w109 => rfl
          case y109 => (intro w hSw; go_simp) <;> with_reducible rfl
          try simp only [Act.put, List.setIfInBounds_toArray, List.set_cons_zero, List.set_cons_succ]
          refine wpAnyH_take (i := 9) (oi := ?o110) (v := ?v110) ?i110 (by kernel_rfl) (by kernel_rfl) (by kernel_rfl) ?q110 (Or.inl ⟨?w110, ?y110⟩) (by assumption) ?r110
          case' i110 => simp only [List.getElem?_toArray, List.getElem?_cons_succ, List.getElem?_cons_zero]
          case i110 => rfl
          case q110 => exact fun _ _ _ h => h
          case w110 => rfl
          case y110 => (intro w hSw; obtain ⟨k0, k1, k2, k3, k4⟩ := hSw; go_simp) <;> with_reducible rfl
          try simp only [Act.put, List.setIfInBounds_toArray, List.set_cons_zero, List.set_cons_succ]
          refine wpAnyH_take (i := 10) (oi := ?o111) (v := ?v111) ?i111 (by kernel_rfl) (by kernel_rfl) (by kernel_rfl) ?q111 (Or.inl ⟨?w111, ?y111⟩) (by assumption) ?r111
          case' i111 => simp only [List.getElem?_toArray, List.getElem?_cons_succ, List.getElem?_cons_zero]
          case i111 => rfl
          case q111 => exact fun _ _ _ h => h
          case w111 => rfl
          case y111 => (intro w hSw; go_simp) <;> with_reducible rfl
          try simp only [Act.put, List.setIfInBounds_toArray, List.set_cons_zero, List.set_cons_succ]
          refine wpAnyH_take (i := 11) (oi := ?o112) (v := ?v112) ?i112 (by kernel_rfl) (by kernel_rfl) (by kernel_rfl) ?q112 (Or.inl ⟨?w112, ?y112⟩) (by assumption) ?r112
          case' i112 => simp only [List.getElem?_toArray, List.getElem?_cons_succ, List.getElem?_cons_zero]
          case i112 => rfl
          case q112 => exact fun _ _ _ h => h
          case w112 => rfl
          case y112 => (intro w hSw; go_simp) <;> with_reducible rfl
          try simp only [Act.put, List.setIfInBounds_toArray, List.set_cons_zero, List.set_cons_succ]
          refine wpAnyH_take (i := 12) (oi := ?o113) (v := ?v113) ?i113 (by kernel_rfl) (by kernel_rfl) (by kernel_rfl) ?q113 (Or.inl ⟨?w113, ?y113⟩) (by assumption) ?r113
          case' i113 => simp only [List.getElem?_toArray, List.getElem?_cons_succ, List.getElem?_cons_zero]
          case i113 => rfl
          case q113 => exact fun _ _ _ h => h
          case w113 => rfl
          case y113 => (intro w hSw; go_simp) <;> with_reducible rfl
          try simp only [Act.put, List.setIfInBounds_toArray, List.set_cons_zero, List.set_cons_succ]
          refine wpAnyH_take (i := 13) (oi := ?o114) (v := undef) ?i114 (by kernel_rfl) (by kernel_rfl) (by kernel_rfl) ?q114 (Or.inr ⟨?w114, rfl⟩) (by assumption) ?r114
          case' i114 => simp only [List.getElem?_toArray, List.getElem?_cons_succ, List.getElem?_cons_zero]
          case i114 => rfl
          case q114 => exact fun _ _ _ h => h
          case w114 => rfl
          try simp only [Act.put, List.setIfInBounds_toArray, List.set_cons_zero, List.set_cons_succ]
          refine wpAnyH_take (i := 14) (oi := ?o115) (v := undef) ?i115 (by kernel_rfl) (by kernel_rfl) (by kernel_rfl) ?q115 (Or.inr ⟨?w115, rfl⟩) (by assumption) ?r115
          case' i115 => simp only [List.getElem?_toArray, List.getElem?_cons_succ, List.getElem?_cons_zero]
          case i115 => rfl
          case q115 => exact fun _ _ _ h => h
          case w115 => rfl
          try simp only [Act.put, List.setIfInBounds_toArray, List.set_cons_zero, List.set_cons_succ]
          refine wpAnyH_take (i := 15) (oi := ?o116) (v := undef) ?i116 (by kernel_rfl) (by kernel_rfl) (by kernel_rfl) ?q116 (Or.inr ⟨?w116, rfl⟩) (by assumption) ?r116
          case' i116 => simp only [List.getElem?_toArray, List.getElem?_cons_succ, List.getElem?_cons_zero]
          case i116 => rfl
          case q116 => exact fun _ _ _ h => h
          case w116 => rfl
          try simp only [Act.put, List.setIfInBounds_toArray, List.set_cons_zero, List.set_cons_succ]
          refine wpAnyH_take (i := 16) (oi := ?o117) (v := undef) ?i117 (by kernel_rfl) (by kernel_rfl) (by kernel_rfl) ?q117 (Or.inr ⟨?w117, rfl⟩) (by assumption) ?r117
          case' i117 => simp only [List.getElem?_toArray, List.getElem?_cons_succ, List.getElem?_cons_zero]
          case i117 => rfl
          case q117 => exact fun _ _ _ h => h
          case w117 => rfl
          try simp only [Act.put, List.setIfInBounds_toArray, List.set_cons_zero, List.set_cons_succ]
          refine wpAnyH_take (i := 17) (oi := ?o118) (v := undef) ?i118 (by kernel_rfl) (by kernel_rfl) (by kernel_rfl) ?q118 (Or.inr ⟨?w118, rfl⟩) (by assumption) ?r118
          case' i118 => simp only [List.getElem?_toArray, List.getElem?_cons_succ, List.getElem?_cons_zero]
          case i118 => rfl
          case q118 => exact fun _ _ _ h => h
          case w118 => rfl
          try simp only [Act.put, List.setIfInBounds_toArray, List.set_cons_zero, List.set_cons_succ]
          refine wpAnyH_take (i := 18) (oi := ?o119) (v := ?v119) ?i119 (by kernel_rfl) (by kernel_rfl) (by kernel_rfl) ?q119 (Or.inl ⟨?w119, ?y119⟩) (by assumption) ?r119
          case' i119 => simp only [List.getElem?_toArray, List.getElem?_cons_succ, List.getElem?_cons_zero]
          case i119 => rfl
          case q119 => exact fun _ _ _ h => h
          case w119 => rfl
          case y119 => (intro w hSw; go_simp) <;> with_reducible rfl
          try simp only [Act.put, List.setIfInBounds_toArray, List.set_cons_zero, List.set_cons_succ]
          refine wpAnyH_take (i := 19) (oi := ?o120) (v := ?v120) ?i120 (by kernel_rfl) (by kernel_rfl) (by kernel_rfl) ?q120 (Or.inl ⟨?w120, ?y120⟩) (by assumption) ?r120
          case' i120 => simp only [List.getElem?_toArray, List.getElem?_cons_succ, List.getElem?_cons_zero]
          case i120 => rfl
          case q120 => exact fun _ _ _ h => h
          case w120 => rfl
          case y120 => (intro w hSw; go_simp) <;> with_reducible rfl
          try simp only [Act.put, List.setIfInBounds_toArray, List.set_cons_zero, List.set_cons_succ]
          refine wpAnyH_take (i := 20) (oi := ?o121) (v := undef) ?i121 (by kernel_rfl) (by kernel_rfl) (by kernel_rfl) ?q121 (Or.inr ⟨?w121, rfl⟩) (by assumption) ?r121
          case' i121 => simp only [List.getElem?_toArray, List.getElem?_cons_succ, List.getElem?_cons_zero]
          case i121 => rfl
          case q121 => exact fun _ _ _ h => h
          case w121 => rfl
          try simp only [Act.put, List.setIfInBounds_toArray, List.set_cons_zero, List.set_cons_succ]
          refine wpAnyH_take (i := 21) (oi := ?o122) (v := undef) ?i122 (by kernel_rfl) (by kernel_rfl) (by kernel_rfl) ?q122 (Or.inr ⟨?w122, rfl⟩) (by assumption) ?r122
          case' i122 => simp only [List.getElem?_toArray, List.getElem?_cons_succ, List.getElem?_cons_zero]
          case i122 => rfl
          case q122 => exact fun _ _ _ h => h
          case w122 => rfl
          try simp only [Act.put, List.setIfInBounds_toArray, List.set_cons_zero, List.set_cons_succ]
          refine wpAnyH_take (i := 22) (oi := ?o123) (v := undef) ?i123 (by kernel_rfl) (by kernel_rfl) (by kernel_rfl) ?q123 (Or.inr ⟨?w123, rfl⟩) (by assumption) ?r123
          case' i123 => simp only [List.getElem?_toArray, List.getElem?_cons_succ, List.getElem?_cons_zero]
          case i123 => rfl
          case q123 => exact fun _ _ _ h => h
          case w123 => rfl
          try simp only [Act.put, List.setIfInBounds_toArray, List.set_cons_zero, List.set_cons_succ]
          refine wpAnyH_take (i := 23) (oi := ?o124) (v := undef) ?i124 (by kernel_rfl) (by kernel_rfl) (by kernel_rfl) ?q124 (Or.inr ⟨?w124, rfl⟩) (by assumption) ?r124
          case' i124 => simp only [List.getElem?_toArray, List.getElem?_cons_succ, List.getElem?_cons_zero]
          case i124 => rfl
          case q124 => exact fun _ _ _ h => h
          case w124 => rfl
          try simp only [Act.put, List.setIfInBounds_toArray, List.set_cons_zero, List.set_cons_succ]
          refine wpAnyH_take (i := 24) (oi := ?o125) (v := ?v125) ?i125 (by kernel_rfl) (by kernel_rfl) (by kernel_rfl) ?q125 (Or.inl ⟨?w125, ?y125⟩) (by assumption) ?r125
          case' i125 => simp only [List.getElem?_toArray, List.getElem?_cons_succ, List.getElem?_cons_zero]
          case i125 => rfl
          case q125 => exact fun _ _ _ h => h
          case w125 => rfl
          case y125 => (intro w hSw; go_simp) <;> with_reducible rfl
          try simp only [Act.put, List.setIfInBounds_toArray, List.set_cons_zero, List.set_cons_succ]
          refine wpAnyH_done (by kernel_rfl) ?_ _
          clear hHeld
          go_wp2
          go_ret
          exact ⟨by rw [← HJ.out, HJ2.out]; rfl, HBB.out⟩
    · obtain rfl : k = n := by omega
      clear hlt hk
      by_cases h0 : k = 0
      · have g1 : decide (0 < k) = false := by simp; omega
        have HJ2 : Hid (wholeF fs = false) := Lib.hid (whole_none (by rw [← HN.out]; exact h0))
        clear h0
        go_wp2
        go_ret
        exact ⟨by rw [← HJ.out, HJ2.out]; rfl, HB.out⟩
      · have g1 : decide (0 < k) = true := by simp; omega
        have HJ2 : Hid (wholeF fs = true) := Lib.hid (whole_all (by rw [← HN.out]; exact h0) (fun j hj => by rw [HID.out, ← HN.out]; exact HOK.out j (by rw [HN.out]; exact hj)))
        clear h0
        go_wp2
        go_ret
        exact ⟨by rw [← HJ.out, HJ2.out]; rfl, HB.out⟩
end Go.Proofs.Ytjcgckhheegonaa
