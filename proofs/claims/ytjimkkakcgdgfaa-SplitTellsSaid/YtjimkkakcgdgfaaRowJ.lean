/- Rows of parts: the document's Join. -/
import Derived.Test.YtjimkkakcgdgfaaRowR
import Derived.Test.YtjimkkakcgdgfaaFragJ
namespace Go.Proofs.Ytjimkkakcgdgfaa
open Go.RowKit
set_option linter.unusedVariables false
set_option linter.unusedSimpArgs false
set_option maxRecDepth 20000

theorem jret {fs : List Fr} {t u : ByteArray} {E F : Nat} {x : Int} (h : joinF fs = (t, E)) (k : joinF fs = (u, F)) (hx : (F : Int) = x := by rfl) : Ending.returned (.tuple #[.string u, .int .i64 x]) = .returned (.tuple #[.string t, .int .i64 E]) := by
  subst hx
  rw [h] at k
  injection k with k1 k2
  subst k1 k2
  rfl
set_option maxHeartbeats 16000000 in
set_option maxRecDepth 100000 in
theorem rjoin_f (a : Option Addr) (n cap : Nat) (fs : List Fr) (w : World) (hn : n = fs.length) (h : RowF w a cap fs) (hz : ∀ j, j < fs.length → (fs.getD j zeroF).s.size ≤ maxLen) (t : ByteArray) (E : Nat) (hj : Hid (joinF fs = (t, E))) :
    Calls Try.prog 13 #[.slice a n cap] w fun e w' => e = .returned (.tuple #[.string t, .int .i64 E]) ∧ Below w.heap.size w w' := by
  have hlen := h.len
  rw [← hn] at hlen
  have HR1 := Lib.hid h
  have HN := Lib.hid hn
  have HS0 := Lib.hid hz
  have HJ := hj
  obtain ⟨id0, hid⟩ : ∃ x, (fs.getD 0 zeroF).id = x := ⟨_, rfl⟩
  have HID := Lib.hid hid
  clear h hn hz hj hid
  go_enter Try.func13, Try.ntmps13
  go_wp2_with fail
  go_loopw [4, 5] (fun v i wr => ∃ (k : Nat) (g : ByteArray), k ≤ n ∧ k ≤ 17 ∧ i = .int .i64 k ∧ v = .string g ∧ Hid (g.size ≤ 1000 * k) ∧ Hid (g = catF (fs.take k) ⟨#[]⟩) ∧ Hid (∀ j, j < k → okAt id0 n j (fs.getD j zeroF) = true) ∧ Hid (Below w.heap.size w wr)) (fun _ i _ => n - (intOf i).toNat)
  case atStart => exact ⟨0, ⟨#[]⟩, Nat.zero_le _, by omega, rfl, rfl, Lib.hid (Nat.le_refl _), Lib.hid rfl, Lib.hid (fun j hj => absurd hj (Nat.not_lt_zero _)), Lib.hid (Below.refl _ _)⟩
  case round =>
    obtain ⟨k, g, hk, hk17, rfl, rfl, HG, HGC, HOK, HB⟩ := hrel
    by_cases hlt : k < n ∧ k < 17
    · obtain ⟨h1, h2⟩ := hlt
      have hlt' : (k : Int) < (n : Int) := by omega
      have h0n : (0 : Int) < (n : Int) := by omega
      have h0m : 0 < n := by omega
      have e1 : decide (k < n) = true := by simpa using h1
      have e2 : decide (k < 17) = true := by simpa using h2
      have e3 : decide ((k : Int) < 17) = true := decide_eq_true (by omega)
      have HKN : Hid (k < fs.length) := Lib.hid (by rw [← HN.out]; exact h1)
      have HK := Lib.hid (And.intro h1 h2)
      obtain ⟨bk, off, hqa, c0, c1, c2, c3⟩ := frow_cell HR1.out (j := k) HKN.out
      obtain ⟨bk', off', hqb, z0, _, _, _⟩ := frow_cell HR1.out (j := 0) (by have := HKN.out; omega)
      subst hqa
      obtain ⟨rfl, rfl⟩ : bk = bk' ∧ off = off' := by simpa using hqb
      rw [HID.out, Nat.zero_mul, Nat.add_zero] at z0
      replace z0 := (HB.out.cell (block_lt_of_cell z0)).trans z0
      replace c0 := (HB.out.cell (block_lt_of_cell c0)).trans c0
      replace c1 := (HB.out.cell (block_lt_of_cell c1)).trans c1
      replace c2 := (HB.out.cell (block_lt_of_cell c2)).trans c2
      replace c3 := (HB.out.cell (block_lt_of_cell c3)).trans c3
      have HSZ := Lib.hid (HS0.out k HKN.out)
      obtain ⟨z, hz⟩ : ∃ z, fs.getD k zeroF = z := ⟨_, rfl⟩
      have HT : Hid (fs.take (k + 1) = fs.take k ++ [z]) := Lib.hid (by rw [← hz]; exact take_getF HKN.out)
      rw [hz] at c0 c1 c2 c3 HSZ
      have HZ := Lib.hid hz
      clear hz hqb h1 h2 hk hk17
      obtain ⟨id, ix, ct, s⟩ := z
      dsimp only at c0 c1 c2 c3 HSZ
      cases hr : rightF ⟨id, ix, ct, s⟩ with
      | false =>
        have HRT := Lib.hid hr
        clear hr
        have HJ2 : Hid (joinF fs = (⟨#[]⟩, 3)) := Lib.hid (join_bad (k := k) HKN.out (by
          cases hq : okAt (fs.getD 0 zeroF).id fs.length k (fs.getD k zeroF) with
          | false => rfl
          | true =>
            rw [HID.out, HZ.out] at hq
            obtain ⟨q1, q2, q3, q4⟩ := okAt_iff.1 hq
            dsimp only at q2 q3 q4
            have := HN.out
            first | (rw [HRT.out] at q1; exact absurd q1 (by decide)) | (exact absurd q2 hb1) | (exact absurd (by rw [q3, ← HN.out]) hb1) | (exact absurd q4 hb1)))
        go_wp2_with fail
        refine wp_region_held_drew (S := fun u => u.cell? ⟨bk, off + k * 4, none⟩ = some (.int .u64 id) ∧ u.cell? ⟨bk, off + k * 4 + 1, none⟩ = some (.int .i64 ix) ∧ u.cell? ⟨bk, off + k * 4 + 2, none⟩ = some (.int .i64 ct) ∧ u.cell? ⟨bk, off + k * 4 + 3, none⟩ = some (.string s) ∧ u.cell? ⟨bk, off, none⟩ = some (.int .u64 id0)) (by kernel_rfl) ⟨c0, c1, c2, c3, z0⟩ (fun hHeld => ?_)
        have HBB := Lib.hid (below_drewn HB.out)
        clear HB c0 c1 c2 c3 z0
        refine wpAnyH_take (i := 0) (oi := ?o1) (v := ?v1) ?i1 (by kernel_rfl) (by kernel_rfl) (by kernel_rfl) ?q1 (Or.inl ⟨?w1, ?y1⟩) (by assumption) ?r1
        case' i1 => simp only [List.getElem?_toArray, List.getElem?_cons_succ, List.getElem?_cons_zero]
        case i1 => rfl
        case q1 => exact fun _ _ _ h => h
        case w1 => rfl
        case y1 => (intro w hSw; go_simp) <;> with_reducible rfl
        try simp only [Act.put, List.setIfInBounds_toArray, List.set_cons_zero, List.set_cons_succ]
        refine wpAnyH_take (i := 1) (oi := ?o2) (v := ?v2) ?i2 (by kernel_rfl) (by kernel_rfl) (by kernel_rfl) ?q2 (Or.inl ⟨?w2, ?y2⟩) (by assumption) ?r2
        case' i2 => simp only [List.getElem?_toArray, List.getElem?_cons_succ, List.getElem?_cons_zero]
        case i2 => rfl
        case q2 => exact fun _ _ _ h => h
        case w2 => rfl
        case y2 => (intro w hSw; go_simp) <;> with_reducible rfl
        try simp only [Act.put, List.setIfInBounds_toArray, List.set_cons_zero, List.set_cons_succ]
        refine wpAnyH_take (i := 2) (oi := ?o3) (v := ?v3) ?i3 (by kernel_rfl) (by kernel_rfl) (by kernel_rfl) ?q3 (Or.inl ⟨?w3, ?y3⟩) (by assumption) ?r3
        case' i3 => simp only [List.getElem?_toArray, List.getElem?_cons_succ, List.getElem?_cons_zero]
        case i3 => rfl
        case q3 => exact fun _ _ _ h => h
        case w3 => rfl
        case y3 => (intro w hSw; go_simp) <;> with_reducible rfl
        try simp only [Act.put, List.setIfInBounds_toArray, List.set_cons_zero, List.set_cons_succ]
        refine wpAnyH_take (i := 3) (oi := ?o4) (v := ?v4) ?i4 (by kernel_rfl) (by kernel_rfl) (by kernel_rfl) ?q4 (Or.inl ⟨?w4, ?y4⟩) (by assumption) ?r4
        case' i4 => simp only [List.getElem?_toArray, List.getElem?_cons_succ, List.getElem?_cons_zero]
        case i4 => rfl
        case q4 => exact fun _ _ _ h => h
        case w4 => rfl
        case y4 => (intro w hSw; obtain ⟨k0, k1, k2, k3, k4⟩ := hSw; go_simp) <;> with_reducible rfl
        try simp only [Act.put, List.setIfInBounds_toArray, List.set_cons_zero, List.set_cons_succ]
        refine wpAnyH_ready (rs := [4]) (by kernel_rfl) (by simp) ?_
        refine AllReadyH.cons (o := ?o5) ?i5 (fun K' hK => ?_) AllReadyH.nil
        case' i5 => simp only [List.getElem?_toArray, List.getElem?_cons_succ, List.getElem?_cons_zero]
        case i5 => rfl
        go_simp
        go_at_call 21
        refine (rright_f id ix ct s _ HSZ.out false HRT).mono ?_
        rintro e w' ⟨rfl, hb⟩
        have HBB' := Lib.hid (HBB.out.trans (hb.mono HBB.out.size))
        have hHeld' : w'.cell? ⟨bk, off + k * 4, none⟩ = some (.int .u64 id) ∧ w'.cell? ⟨bk, off + k * 4 + 1, none⟩ = some (.int .i64 ix) ∧ w'.cell? ⟨bk, off + k * 4 + 2, none⟩ = some (.int .i64 ct) ∧ w'.cell? ⟨bk, off + k * 4 + 3, none⟩ = some (.string s) ∧ w'.cell? ⟨bk, off, none⟩ = some (.int .u64 id0) := ⟨(hb.cell (block_lt_of_cell hHeld.1)).trans hHeld.1, (hb.cell (block_lt_of_cell hHeld.2.1)).trans hHeld.2.1, (hb.cell (block_lt_of_cell hHeld.2.2.1)).trans hHeld.2.2.1, (hb.cell (block_lt_of_cell hHeld.2.2.2.1)).trans hHeld.2.2.2.1, (hb.cell (block_lt_of_cell hHeld.2.2.2.2)).trans hHeld.2.2.2.2⟩
        clear HBB hb
        have HBB := HBB'
        clear HBB'
        go_wp2_with fail
        refine hK.out _ _ hHeld' (fun _ => ?_)
        clear hK K' hHeld
        have hHeld := hHeld'
        clear hHeld'
        try simp only [Act.put, List.setIfInBounds_toArray, List.set_cons_zero, List.set_cons_succ]
        refine wpAnyH_take (i := 5) (oi := ?o6) (v := ?v6) ?i6 (by kernel_rfl) (by kernel_rfl) (by kernel_rfl) ?q6 (Or.inl ⟨?w6, ?y6⟩) (by assumption) ?r6
        case' i6 => simp only [List.getElem?_toArray, List.getElem?_cons_succ, List.getElem?_cons_zero]
        case i6 => rfl
        case q6 => exact fun _ _ _ h => h
        case w6 => rfl
        case y6 => (intro w hSw; go_simp) <;> with_reducible rfl
        try simp only [Act.put, List.setIfInBounds_toArray, List.set_cons_zero, List.set_cons_succ]
        refine wpAnyH_take (i := 6) (oi := ?o7) (v := ?v7) ?i7 (by kernel_rfl) (by kernel_rfl) (by kernel_rfl) ?q7 (Or.inl ⟨?w7, ?y7⟩) (by assumption) ?r7
        case' i7 => simp only [List.getElem?_toArray, List.getElem?_cons_succ, List.getElem?_cons_zero]
        case i7 => rfl
        case q7 => exact fun _ _ _ h => h
        case w7 => rfl
        case y7 => (intro w hSw; go_simp) <;> with_reducible rfl
        try simp only [Act.put, List.setIfInBounds_toArray, List.set_cons_zero, List.set_cons_succ]
        refine wpAnyH_take (i := 7) (oi := ?o8) (v := undef) ?i8 (by kernel_rfl) (by kernel_rfl) (by kernel_rfl) ?q8 (Or.inr ⟨?w8, rfl⟩) (by assumption) ?r8
        case' i8 => simp only [List.getElem?_toArray, List.getElem?_cons_succ, List.getElem?_cons_zero]
        case i8 => rfl
        case q8 => exact fun _ _ _ h => h
        case w8 => rfl
        try simp only [Act.put, List.setIfInBounds_toArray, List.set_cons_zero, List.set_cons_succ]
        refine wpAnyH_take (i := 8) (oi := ?o9) (v := undef) ?i9 (by kernel_rfl) (by kernel_rfl) (by kernel_rfl) ?q9 (Or.inr ⟨?w9, rfl⟩) (by assumption) ?r9
        case' i9 => simp only [List.getElem?_toArray, List.getElem?_cons_succ, List.getElem?_cons_zero]
        case i9 => rfl
        case q9 => exact fun _ _ _ h => h
        case w9 => rfl
        try simp only [Act.put, List.setIfInBounds_toArray, List.set_cons_zero, List.set_cons_succ]
        refine wpAnyH_take (i := 9) (oi := ?o10) (v := undef) ?i10 (by kernel_rfl) (by kernel_rfl) (by kernel_rfl) ?q10 (Or.inr ⟨?w10, rfl⟩) (by assumption) ?r10
        case' i10 => simp only [List.getElem?_toArray, List.getElem?_cons_succ, List.getElem?_cons_zero]
        case i10 => rfl
        case q10 => exact fun _ _ _ h => h
        case w10 => rfl
        try simp only [Act.put, List.setIfInBounds_toArray, List.set_cons_zero, List.set_cons_succ]
        refine wpAnyH_take (i := 10) (oi := ?o11) (v := undef) ?i11 (by kernel_rfl) (by kernel_rfl) (by kernel_rfl) ?q11 (Or.inr ⟨?w11, rfl⟩) (by assumption) ?r11
        case' i11 => simp only [List.getElem?_toArray, List.getElem?_cons_succ, List.getElem?_cons_zero]
        case i11 => rfl
        case q11 => exact fun _ _ _ h => h
        case w11 => rfl
        try simp only [Act.put, List.setIfInBounds_toArray, List.set_cons_zero, List.set_cons_succ]
        refine wpAnyH_take (i := 11) (oi := ?o12) (v := undef) ?i12 (by kernel_rfl) (by kernel_rfl) (by kernel_rfl) ?q12 (Or.inr ⟨?w12, rfl⟩) (by assumption) ?r12
        case' i12 => simp only [List.getElem?_toArray, List.getElem?_cons_succ, List.getElem?_cons_zero]
        case i12 => rfl
        case q12 => exact fun _ _ _ h => h
        case w12 => rfl
        try simp only [Act.put, List.setIfInBounds_toArray, List.set_cons_zero, List.set_cons_succ]
        refine wpAnyH_take (i := 12) (oi := ?o13) (v := undef) ?i13 (by kernel_rfl) (by kernel_rfl) (by kernel_rfl) ?q13 (Or.inr ⟨?w13, rfl⟩) (by assumption) ?r13
        case' i13 => simp only [List.getElem?_toArray, List.getElem?_cons_succ, List.getElem?_cons_zero]
        case i13 => rfl
        case q13 => exact fun _ _ _ h => h
        case w13 => rfl
        try simp only [Act.put, List.setIfInBounds_toArray, List.set_cons_zero, List.set_cons_succ]
        refine wpAnyH_take (i := 13) (oi := ?o14) (v := undef) ?i14 (by kernel_rfl) (by kernel_rfl) (by kernel_rfl) ?q14 (Or.inr ⟨?w14, rfl⟩) (by assumption) ?r14
        case' i14 => simp only [List.getElem?_toArray, List.getElem?_cons_succ, List.getElem?_cons_zero]
        case i14 => rfl
        case q14 => exact fun _ _ _ h => h
        case w14 => rfl
        try simp only [Act.put, List.setIfInBounds_toArray, List.set_cons_zero, List.set_cons_succ]
        refine wpAnyH_take (i := 14) (oi := ?o15) (v := undef) ?i15 (by kernel_rfl) (by kernel_rfl) (by kernel_rfl) ?q15 (Or.inr ⟨?w15, rfl⟩) (by assumption) ?r15
        case' i15 => simp only [List.getElem?_toArray, List.getElem?_cons_succ, List.getElem?_cons_zero]
        case i15 => rfl
        case q15 => exact fun _ _ _ h => h
        case w15 => rfl
        try simp only [Act.put, List.setIfInBounds_toArray, List.set_cons_zero, List.set_cons_succ]
        refine wpAnyH_take (i := 15) (oi := ?o16) (v := undef) ?i16 (by kernel_rfl) (by kernel_rfl) (by kernel_rfl) ?q16 (Or.inr ⟨?w16, rfl⟩) (by assumption) ?r16
        case' i16 => simp only [List.getElem?_toArray, List.getElem?_cons_succ, List.getElem?_cons_zero]
        case i16 => rfl
        case q16 => exact fun _ _ _ h => h
        case w16 => rfl
        try simp only [Act.put, List.setIfInBounds_toArray, List.set_cons_zero, List.set_cons_succ]
        refine wpAnyH_take (i := 16) (oi := ?o17) (v := undef) ?i17 (by kernel_rfl) (by kernel_rfl) (by kernel_rfl) ?q17 (Or.inr ⟨?w17, rfl⟩) (by assumption) ?r17
        case' i17 => simp only [List.getElem?_toArray, List.getElem?_cons_succ, List.getElem?_cons_zero]
        case i17 => rfl
        case q17 => exact fun _ _ _ h => h
        case w17 => rfl
        try simp only [Act.put, List.setIfInBounds_toArray, List.set_cons_zero, List.set_cons_succ]
        refine wpAnyH_take (i := 17) (oi := ?o18) (v := ?v18) ?i18 (by kernel_rfl) (by kernel_rfl) (by kernel_rfl) ?q18 (Or.inl ⟨?w18, ?y18⟩) (by assumption) ?r18
        case' i18 => simp only [List.getElem?_toArray, List.getElem?_cons_succ, List.getElem?_cons_zero]
        case i18 => rfl
        case q18 => exact fun _ _ _ h => h
        case w18 => rfl
        case y18 => (intro w hSw; go_simp) <;> with_reducible rfl
        try simp only [Act.put, List.setIfInBounds_toArray, List.set_cons_zero, List.set_cons_succ]
        refine wpAnyH_take (i := 18) (oi := ?o19) (v := ?v19) ?i19 (by kernel_rfl) (by kernel_rfl) (by kernel_rfl) ?q19 (Or.inl ⟨?w19, ?y19⟩) (by assumption) ?r19
        case' i19 => simp only [List.getElem?_toArray, List.getElem?_cons_succ, List.getElem?_cons_zero]
        case i19 => rfl
        case q19 => exact fun _ _ _ h => h
        case w19 => rfl
        case y19 => (intro w hSw; go_simp) <;> with_reducible rfl
        try simp only [Act.put, List.setIfInBounds_toArray, List.set_cons_zero, List.set_cons_succ]
        refine wpAnyH_take (i := 19) (oi := ?o20) (v := undef) ?i20 (by kernel_rfl) (by kernel_rfl) (by kernel_rfl) ?q20 (Or.inr ⟨?w20, rfl⟩) (by assumption) ?r20
        case' i20 => simp only [List.getElem?_toArray, List.getElem?_cons_succ, List.getElem?_cons_zero]
        case i20 => rfl
        case q20 => exact fun _ _ _ h => h
        case w20 => rfl
        try simp only [Act.put, List.setIfInBounds_toArray, List.set_cons_zero, List.set_cons_succ]
        refine wpAnyH_take (i := 20) (oi := ?o21) (v := undef) ?i21 (by kernel_rfl) (by kernel_rfl) (by kernel_rfl) ?q21 (Or.inr ⟨?w21, rfl⟩) (by assumption) ?r21
        case' i21 => simp only [List.getElem?_toArray, List.getElem?_cons_succ, List.getElem?_cons_zero]
        case i21 => rfl
        case q21 => exact fun _ _ _ h => h
        case w21 => rfl
        try simp only [Act.put, List.setIfInBounds_toArray, List.set_cons_zero, List.set_cons_succ]
        refine wpAnyH_take (i := 21) (oi := ?o22) (v := undef) ?i22 (by kernel_rfl) (by kernel_rfl) (by kernel_rfl) ?q22 (Or.inr ⟨?w22, rfl⟩) (by assumption) ?r22
        case' i22 => simp only [List.getElem?_toArray, List.getElem?_cons_succ, List.getElem?_cons_zero]
        case i22 => rfl
        case q22 => exact fun _ _ _ h => h
        case w22 => rfl
        try simp only [Act.put, List.setIfInBounds_toArray, List.set_cons_zero, List.set_cons_succ]
        refine wpAnyH_take (i := 22) (oi := ?o23) (v := undef) ?i23 (by kernel_rfl) (by kernel_rfl) (by kernel_rfl) ?q23 (Or.inr ⟨?w23, rfl⟩) (by assumption) ?r23
        case' i23 => simp only [List.getElem?_toArray, List.getElem?_cons_succ, List.getElem?_cons_zero]
        case i23 => rfl
        case q23 => exact fun _ _ _ h => h
        case w23 => rfl
        try simp only [Act.put, List.setIfInBounds_toArray, List.set_cons_zero, List.set_cons_succ]
        refine wpAnyH_take (i := 23) (oi := ?o24) (v := undef) ?i24 (by kernel_rfl) (by kernel_rfl) (by kernel_rfl) ?q24 (Or.inr ⟨?w24, rfl⟩) (by assumption) ?r24
        case' i24 => simp only [List.getElem?_toArray, List.getElem?_cons_succ, List.getElem?_cons_zero]
        case i24 => rfl
        case q24 => exact fun _ _ _ h => h
        case w24 => rfl
        try simp only [Act.put, List.setIfInBounds_toArray, List.set_cons_zero, List.set_cons_succ]
        refine wpAnyH_take (i := 24) (oi := ?o25) (v := undef) ?i25 (by kernel_rfl) (by kernel_rfl) (by kernel_rfl) ?q25 (Or.inr ⟨?w25, rfl⟩) (by assumption) ?r25
        case' i25 => simp only [List.getElem?_toArray, List.getElem?_cons_succ, List.getElem?_cons_zero]
        case i25 => rfl
        case q25 => exact fun _ _ _ h => h
        case w25 => rfl
        try simp only [Act.put, List.setIfInBounds_toArray, List.set_cons_zero, List.set_cons_succ]
        refine wpAnyH_take (i := 25) (oi := ?o26) (v := undef) ?i26 (by kernel_rfl) (by kernel_rfl) (by kernel_rfl) ?q26 (Or.inr ⟨?w26, rfl⟩) (by assumption) ?r26
        case' i26 => simp only [List.getElem?_toArray, List.getElem?_cons_succ, List.getElem?_cons_zero]
        case i26 => rfl
        case q26 => exact fun _ _ _ h => h
        case w26 => rfl
        try simp only [Act.put, List.setIfInBounds_toArray, List.set_cons_zero, List.set_cons_succ]
        refine wpAnyH_take (i := 26) (oi := ?o27) (v := undef) ?i27 (by kernel_rfl) (by kernel_rfl) (by kernel_rfl) ?q27 (Or.inr ⟨?w27, rfl⟩) (by assumption) ?r27
        case' i27 => simp only [List.getElem?_toArray, List.getElem?_cons_succ, List.getElem?_cons_zero]
        case i27 => rfl
        case q27 => exact fun _ _ _ h => h
        case w27 => rfl
        try simp only [Act.put, List.setIfInBounds_toArray, List.set_cons_zero, List.set_cons_succ]
        refine wpAnyH_take (i := 27) (oi := ?o28) (v := ?v28) ?i28 (by kernel_rfl) (by kernel_rfl) (by kernel_rfl) ?q28 (Or.inl ⟨?w28, ?y28⟩) (by assumption) ?r28
        case' i28 => simp only [List.getElem?_toArray, List.getElem?_cons_succ, List.getElem?_cons_zero]
        case i28 => rfl
        case q28 => exact fun _ _ _ h => h
        case w28 => rfl
        case y28 => (intro w hSw; go_simp) <;> with_reducible rfl
        try simp only [Act.put, List.setIfInBounds_toArray, List.set_cons_zero, List.set_cons_succ]
        refine wpAnyH_take (i := 28) (oi := ?o29) (v := ?v29) ?i29 (by kernel_rfl) (by kernel_rfl) (by kernel_rfl) ?q29 (Or.inl ⟨?w29, ?y29⟩) (by assumption) ?r29
        case' i29 => simp only [List.getElem?_toArray, List.getElem?_cons_succ, List.getElem?_cons_zero]
        case i29 => rfl
        case q29 => exact fun _ _ _ h => h
        case w29 => rfl
        case y29 => (intro w hSw; go_simp) <;> with_reducible rfl
        try simp only [Act.put, List.setIfInBounds_toArray, List.set_cons_zero, List.set_cons_succ]
        refine wpAnyH_take (i := 29) (oi := ?o30) (v := undef) ?i30 (by kernel_rfl) (by kernel_rfl) (by kernel_rfl) ?q30 (Or.inr ⟨?w30, rfl⟩) (by assumption) ?r30
        case' i30 => simp only [List.getElem?_toArray, List.getElem?_cons_succ, List.getElem?_cons_zero]
        case i30 => rfl
        case q30 => exact fun _ _ _ h => h
        case w30 => rfl
        try simp only [Act.put, List.setIfInBounds_toArray, List.set_cons_zero, List.set_cons_succ]
        refine wpAnyH_take (i := 30) (oi := ?o31) (v := undef) ?i31 (by kernel_rfl) (by kernel_rfl) (by kernel_rfl) ?q31 (Or.inr ⟨?w31, rfl⟩) (by assumption) ?r31
        case' i31 => simp only [List.getElem?_toArray, List.getElem?_cons_succ, List.getElem?_cons_zero]
        case i31 => rfl
        case q31 => exact fun _ _ _ h => h
        case w31 => rfl
        try simp only [Act.put, List.setIfInBounds_toArray, List.set_cons_zero, List.set_cons_succ]
        refine wpAnyH_take (i := 31) (oi := ?o32) (v := undef) ?i32 (by kernel_rfl) (by kernel_rfl) (by kernel_rfl) ?q32 (Or.inr ⟨?w32, rfl⟩) (by assumption) ?r32
        case' i32 => simp only [List.getElem?_toArray, List.getElem?_cons_succ, List.getElem?_cons_zero]
        case i32 => rfl
        case q32 => exact fun _ _ _ h => h
        case w32 => rfl
        try simp only [Act.put, List.setIfInBounds_toArray, List.set_cons_zero, List.set_cons_succ]
        refine wpAnyH_take (i := 32) (oi := ?o33) (v := undef) ?i33 (by kernel_rfl) (by kernel_rfl) (by kernel_rfl) ?q33 (Or.inr ⟨?w33, rfl⟩) (by assumption) ?r33
        case' i33 => simp only [List.getElem?_toArray, List.getElem?_cons_succ, List.getElem?_cons_zero]
        case i33 => rfl
        case q33 => exact fun _ _ _ h => h
        case w33 => rfl
        try simp only [Act.put, List.setIfInBounds_toArray, List.set_cons_zero, List.set_cons_succ]
        refine wpAnyH_take (i := 33) (oi := ?o34) (v := undef) ?i34 (by kernel_rfl) (by kernel_rfl) (by kernel_rfl) ?q34 (Or.inr ⟨?w34, rfl⟩) (by assumption) ?r34
        case' i34 => simp only [List.getElem?_toArray, List.getElem?_cons_succ, List.getElem?_cons_zero]
        case i34 => rfl
        case q34 => exact fun _ _ _ h => h
        case w34 => rfl
        try simp only [Act.put, List.setIfInBounds_toArray, List.set_cons_zero, List.set_cons_succ]
        refine wpAnyH_take (i := 34) (oi := ?o35) (v := undef) ?i35 (by kernel_rfl) (by kernel_rfl) (by kernel_rfl) ?q35 (Or.inr ⟨?w35, rfl⟩) (by assumption) ?r35
        case' i35 => simp only [List.getElem?_toArray, List.getElem?_cons_succ, List.getElem?_cons_zero]
        case i35 => rfl
        case q35 => exact fun _ _ _ h => h
        case w35 => rfl
        try simp only [Act.put, List.setIfInBounds_toArray, List.set_cons_zero, List.set_cons_succ]
        refine wpAnyH_take (i := 35) (oi := ?o36) (v := undef) ?i36 (by kernel_rfl) (by kernel_rfl) (by kernel_rfl) ?q36 (Or.inr ⟨?w36, rfl⟩) (by assumption) ?r36
        case' i36 => simp only [List.getElem?_toArray, List.getElem?_cons_succ, List.getElem?_cons_zero]
        case i36 => rfl
        case q36 => exact fun _ _ _ h => h
        case w36 => rfl
        try simp only [Act.put, List.setIfInBounds_toArray, List.set_cons_zero, List.set_cons_succ]
        refine wpAnyH_take (i := 36) (oi := ?o37) (v := ?v37) ?i37 (by kernel_rfl) (by kernel_rfl) (by kernel_rfl) ?q37 (Or.inl ⟨?w37, ?y37⟩) (by assumption) ?r37
        case' i37 => simp only [List.getElem?_toArray, List.getElem?_cons_succ, List.getElem?_cons_zero]
        case i37 => rfl
        case q37 => exact fun _ _ _ h => h
        case w37 => rfl
        case y37 => (intro w hSw; go_simp) <;> with_reducible rfl
        try simp only [Act.put, List.setIfInBounds_toArray, List.set_cons_zero, List.set_cons_succ]
        refine wpAnyH_done (by kernel_rfl) ?_ _
        clear hHeld
        go_wp2
        go_ret2
        exact ⟨jret HJ.out HJ2.out, HBB.out⟩
      | true =>
        have HRT := Lib.hid hr
        clear hr
        by_cases hb1 : id = id0
        · have q1 : (id != id0) = false := by simp [hb1]
          have HI0 := Lib.hid hb1
          clear hb1
          by_cases hb1 : ct = (n : Int)
          · have q2 : (ct != (n : Int)) = false := by simp [hb1]
            have HI1 := Lib.hid hb1
            clear hb1
            by_cases hb1 : ix = (k : Int)
            · have q3 : (ix != (k : Int)) = false := by simp [hb1]
              have HI2 := Lib.hid hb1
              clear hb1
              have HOK2 : Hid (∀ j, j < k + 1 → okAt id0 n j (fs.getD j zeroF) = true) := Lib.hid (fun j hj => by
                rcases Nat.lt_or_ge j k with q | q
                · exact HOK.out j q
                · obtain rfl : j = k := by omega
                  rw [HZ.out]
                  exact okAt_iff.2 ⟨HRT.out, HI0.out, HI1.out, HI2.out⟩)
              have HS1 : Hid (s.size ≤ 1000) := Lib.hid (by have := (rightF_iff.1 HRT.out).2.2.2.2.2.2.2; exact this)
              clear HOK
              go_wp2_with fail
              refine wp_region_held_drew (S := fun u => u.cell? ⟨bk, off + k * 4, none⟩ = some (.int .u64 id) ∧ u.cell? ⟨bk, off + k * 4 + 1, none⟩ = some (.int .i64 ix) ∧ u.cell? ⟨bk, off + k * 4 + 2, none⟩ = some (.int .i64 ct) ∧ u.cell? ⟨bk, off + k * 4 + 3, none⟩ = some (.string s) ∧ u.cell? ⟨bk, off, none⟩ = some (.int .u64 id0)) (by kernel_rfl) ⟨c0, c1, c2, c3, z0⟩ (fun hHeld => ?_)
              have HBB := Lib.hid (below_drewn HB.out)
              clear HB c0 c1 c2 c3 z0
              refine wpAnyH_take (i := 0) (oi := ?o38) (v := ?v38) ?i38 (by kernel_rfl) (by kernel_rfl) (by kernel_rfl) ?q38 (Or.inl ⟨?w38, ?y38⟩) (by assumption) ?r38
              case' i38 => simp only [List.getElem?_toArray, List.getElem?_cons_succ, List.getElem?_cons_zero]
              case i38 => rfl
              case q38 => exact fun _ _ _ h => h
              case w38 => rfl
              case y38 => (intro w hSw; go_simp) <;> with_reducible rfl
              try simp only [Act.put, List.setIfInBounds_toArray, List.set_cons_zero, List.set_cons_succ]
              refine wpAnyH_take (i := 1) (oi := ?o39) (v := ?v39) ?i39 (by kernel_rfl) (by kernel_rfl) (by kernel_rfl) ?q39 (Or.inl ⟨?w39, ?y39⟩) (by assumption) ?r39
              case' i39 => simp only [List.getElem?_toArray, List.getElem?_cons_succ, List.getElem?_cons_zero]
              case i39 => rfl
              case q39 => exact fun _ _ _ h => h
              case w39 => rfl
              case y39 => (intro w hSw; go_simp) <;> with_reducible rfl
              try simp only [Act.put, List.setIfInBounds_toArray, List.set_cons_zero, List.set_cons_succ]
              refine wpAnyH_take (i := 2) (oi := ?o40) (v := ?v40) ?i40 (by kernel_rfl) (by kernel_rfl) (by kernel_rfl) ?q40 (Or.inl ⟨?w40, ?y40⟩) (by assumption) ?r40
              case' i40 => simp only [List.getElem?_toArray, List.getElem?_cons_succ, List.getElem?_cons_zero]
              case i40 => rfl
              case q40 => exact fun _ _ _ h => h
              case w40 => rfl
              case y40 => (intro w hSw; go_simp) <;> with_reducible rfl
              try simp only [Act.put, List.setIfInBounds_toArray, List.set_cons_zero, List.set_cons_succ]
              refine wpAnyH_take (i := 3) (oi := ?o41) (v := ?v41) ?i41 (by kernel_rfl) (by kernel_rfl) (by kernel_rfl) ?q41 (Or.inl ⟨?w41, ?y41⟩) (by assumption) ?r41
              case' i41 => simp only [List.getElem?_toArray, List.getElem?_cons_succ, List.getElem?_cons_zero]
              case i41 => rfl
              case q41 => exact fun _ _ _ h => h
              case w41 => rfl
              case y41 => (intro w hSw; obtain ⟨k0, k1, k2, k3, k4⟩ := hSw; go_simp) <;> with_reducible rfl
              try simp only [Act.put, List.setIfInBounds_toArray, List.set_cons_zero, List.set_cons_succ]
              refine wpAnyH_ready (rs := [4]) (by kernel_rfl) (by simp) ?_
              refine AllReadyH.cons (o := ?o42) ?i42 (fun K' hK => ?_) AllReadyH.nil
              case' i42 => simp only [List.getElem?_toArray, List.getElem?_cons_succ, List.getElem?_cons_zero]
              case i42 => rfl
              go_simp
              go_at_call 21
              refine (rright_f id ix ct s _ HSZ.out true HRT).mono ?_
              rintro e w' ⟨rfl, hb⟩
              have HBB' := Lib.hid (HBB.out.trans (hb.mono HBB.out.size))
              have hHeld' : w'.cell? ⟨bk, off + k * 4, none⟩ = some (.int .u64 id) ∧ w'.cell? ⟨bk, off + k * 4 + 1, none⟩ = some (.int .i64 ix) ∧ w'.cell? ⟨bk, off + k * 4 + 2, none⟩ = some (.int .i64 ct) ∧ w'.cell? ⟨bk, off + k * 4 + 3, none⟩ = some (.string s) ∧ w'.cell? ⟨bk, off, none⟩ = some (.int .u64 id0) := ⟨(hb.cell (block_lt_of_cell hHeld.1)).trans hHeld.1, (hb.cell (block_lt_of_cell hHeld.2.1)).trans hHeld.2.1, (hb.cell (block_lt_of_cell hHeld.2.2.1)).trans hHeld.2.2.1, (hb.cell (block_lt_of_cell hHeld.2.2.2.1)).trans hHeld.2.2.2.1, (hb.cell (block_lt_of_cell hHeld.2.2.2.2)).trans hHeld.2.2.2.2⟩
              clear HBB hb
              have HBB := HBB'
              clear HBB'
              go_wp2_with fail
              refine hK.out _ _ hHeld' (fun _ => ?_)
              clear hK K' hHeld
              have hHeld := hHeld'
              clear hHeld'
              try simp only [Act.put, List.setIfInBounds_toArray, List.set_cons_zero, List.set_cons_succ]
              refine wpAnyH_take (i := 5) (oi := ?o43) (v := ?v43) ?i43 (by kernel_rfl) (by kernel_rfl) (by kernel_rfl) ?q43 (Or.inl ⟨?w43, ?y43⟩) (by assumption) ?r43
              case' i43 => simp only [List.getElem?_toArray, List.getElem?_cons_succ, List.getElem?_cons_zero]
              case i43 => rfl
              case q43 => exact fun _ _ _ h => h
              case w43 => rfl
              case y43 => (intro w hSw; go_simp) <;> with_reducible rfl
              try simp only [Act.put, List.setIfInBounds_toArray, List.set_cons_zero, List.set_cons_succ]
              refine wpAnyH_take (i := 6) (oi := ?o44) (v := ?v44) ?i44 (by kernel_rfl) (by kernel_rfl) (by kernel_rfl) ?q44 (Or.inl ⟨?w44, ?y44⟩) (by assumption) ?r44
              case' i44 => simp only [List.getElem?_toArray, List.getElem?_cons_succ, List.getElem?_cons_zero]
              case i44 => rfl
              case q44 => exact fun _ _ _ h => h
              case w44 => rfl
              case y44 => (intro w hSw; go_simp) <;> with_reducible rfl
              try simp only [Act.put, List.setIfInBounds_toArray, List.set_cons_zero, List.set_cons_succ]
              refine wpAnyH_take (i := 7) (oi := ?o45) (v := ?v45) ?i45 (by kernel_rfl) (by kernel_rfl) (by kernel_rfl) ?q45 (Or.inl ⟨?w45, ?y45⟩) (by assumption) ?r45
              case' i45 => simp only [List.getElem?_toArray, List.getElem?_cons_succ, List.getElem?_cons_zero]
              case i45 => rfl
              case q45 => exact fun _ _ _ h => h
              case w45 => rfl
              case y45 => (intro w hSw; go_simp) <;> with_reducible rfl
              try simp only [Act.put, List.setIfInBounds_toArray, List.set_cons_zero, List.set_cons_succ]
              refine wpAnyH_take (i := 8) (oi := ?o46) (v := ?v46) ?i46 (by kernel_rfl) (by kernel_rfl) (by kernel_rfl) ?q46 (Or.inl ⟨?w46, ?y46⟩) (by assumption) ?r46
              case' i46 => simp only [List.getElem?_toArray, List.getElem?_cons_succ, List.getElem?_cons_zero]
              case i46 => rfl
              case q46 => exact fun _ _ _ h => h
              case w46 => rfl
              case y46 => (intro w hSw; go_simp) <;> with_reducible rfl
              try simp only [Act.put, List.setIfInBounds_toArray, List.set_cons_zero, List.set_cons_succ]
              refine wpAnyH_take (i := 9) (oi := ?o47) (v := ?v47) ?i47 (by kernel_rfl) (by kernel_rfl) (by kernel_rfl) ?q47 (Or.inl ⟨?w47, ?y47⟩) (by assumption) ?r47
              case' i47 => simp only [List.getElem?_toArray, List.getElem?_cons_succ, List.getElem?_cons_zero]
              case i47 => rfl
              case q47 => exact fun _ _ _ h => h
              case w47 => rfl
              case y47 => (intro w hSw; go_simp) <;> with_reducible rfl
              try simp only [Act.put, List.setIfInBounds_toArray, List.set_cons_zero, List.set_cons_succ]
              refine wpAnyH_take (i := 10) (oi := ?o48) (v := ?v48) ?i48 (by kernel_rfl) (by kernel_rfl) (by kernel_rfl) ?q48 (Or.inl ⟨?w48, ?y48⟩) (by assumption) ?r48
              case' i48 => simp only [List.getElem?_toArray, List.getElem?_cons_succ, List.getElem?_cons_zero]
              case i48 => rfl
              case q48 => exact fun _ _ _ h => h
              case w48 => rfl
              case y48 => (intro w hSw; go_simp) <;> with_reducible rfl
              try simp only [Act.put, List.setIfInBounds_toArray, List.set_cons_zero, List.set_cons_succ]
              refine wpAnyH_take (i := 11) (oi := ?o49) (v := ?v49) ?i49 (by kernel_rfl) (by kernel_rfl) (by kernel_rfl) ?q49 (Or.inl ⟨?w49, ?y49⟩) (by assumption) ?r49
              case' i49 => simp only [List.getElem?_toArray, List.getElem?_cons_succ, List.getElem?_cons_zero]
              case i49 => rfl
              case q49 => exact fun _ _ _ h => h
              case w49 => rfl
              case y49 => (intro w hSw; obtain ⟨k0, k1, k2, k3, k4⟩ := hSw; go_simp) <;> with_reducible rfl
              try simp only [Act.put, List.setIfInBounds_toArray, List.set_cons_zero, List.set_cons_succ]
              refine wpAnyH_take (i := 12) (oi := ?o50) (v := ?v50) ?i50 (by kernel_rfl) (by kernel_rfl) (by kernel_rfl) ?q50 (Or.inl ⟨?w50, ?y50⟩) (by assumption) ?r50
              case' i50 => simp only [List.getElem?_toArray, List.getElem?_cons_succ, List.getElem?_cons_zero]
              case i50 => rfl
              case q50 => exact fun _ _ _ h => h
              case w50 => rfl
              case y50 => (intro w hSw; go_simp) <;> with_reducible rfl
              try simp only [Act.put, List.setIfInBounds_toArray, List.set_cons_zero, List.set_cons_succ]
              refine wpAnyH_take (i := 13) (oi := ?o51) (v := ?v51) ?i51 (by kernel_rfl) (by kernel_rfl) (by kernel_rfl) ?q51 (Or.inl ⟨?w51, ?y51⟩) (by assumption) ?r51
              case' i51 => simp only [List.getElem?_toArray, List.getElem?_cons_succ, List.getElem?_cons_zero]
              case i51 => rfl
              case q51 => exact fun _ _ _ h => h
              case w51 => rfl
              case y51 => (intro w hSw; go_simp) <;> with_reducible rfl
              try simp only [Act.put, List.setIfInBounds_toArray, List.set_cons_zero, List.set_cons_succ]
              refine wpAnyH_take (i := 14) (oi := ?o52) (v := ?v52) ?i52 (by kernel_rfl) (by kernel_rfl) (by kernel_rfl) ?q52 (Or.inl ⟨?w52, ?y52⟩) (by assumption) ?r52
              case' i52 => simp only [List.getElem?_toArray, List.getElem?_cons_succ, List.getElem?_cons_zero]
              case i52 => rfl
              case q52 => exact fun _ _ _ h => h
              case w52 => rfl
              case y52 => (intro w hSw; go_simp) <;> with_reducible rfl
              try simp only [Act.put, List.setIfInBounds_toArray, List.set_cons_zero, List.set_cons_succ]
              refine wpAnyH_take (i := 15) (oi := ?o53) (v := ?v53) ?i53 (by kernel_rfl) (by kernel_rfl) (by kernel_rfl) ?q53 (Or.inl ⟨?w53, ?y53⟩) (by assumption) ?r53
              case' i53 => simp only [List.getElem?_toArray, List.getElem?_cons_succ, List.getElem?_cons_zero]
              case i53 => rfl
              case q53 => exact fun _ _ _ h => h
              case w53 => rfl
              case y53 => (intro w hSw; obtain ⟨k0, k1, k2, k3, k4⟩ := hSw; go_simp) <;> with_reducible rfl
              try simp only [Act.put, List.setIfInBounds_toArray, List.set_cons_zero, List.set_cons_succ]
              refine wpAnyH_take (i := 16) (oi := ?o54) (v := ?v54) ?i54 (by kernel_rfl) (by kernel_rfl) (by kernel_rfl) ?q54 (Or.inl ⟨?w54, ?y54⟩) (by assumption) ?r54
              case' i54 => simp only [List.getElem?_toArray, List.getElem?_cons_succ, List.getElem?_cons_zero]
              case i54 => rfl
              case q54 => exact fun _ _ _ h => h
              case w54 => rfl
              case y54 => (intro w hSw; go_simp) <;> with_reducible rfl
              try simp only [Act.put, List.setIfInBounds_toArray, List.set_cons_zero, List.set_cons_succ]
              refine wpAnyH_take (i := 17) (oi := ?o55) (v := ?v55) ?i55 (by kernel_rfl) (by kernel_rfl) (by kernel_rfl) ?q55 (Or.inl ⟨?w55, ?y55⟩) (by assumption) ?r55
              case' i55 => simp only [List.getElem?_toArray, List.getElem?_cons_succ, List.getElem?_cons_zero]
              case i55 => rfl
              case q55 => exact fun _ _ _ h => h
              case w55 => rfl
              case y55 => (intro w hSw; go_simp) <;> with_reducible rfl
              try simp only [Act.put, List.setIfInBounds_toArray, List.set_cons_zero, List.set_cons_succ]
              refine wpAnyH_take (i := 18) (oi := ?o56) (v := ?v56) ?i56 (by kernel_rfl) (by kernel_rfl) (by kernel_rfl) ?q56 (Or.inl ⟨?w56, ?y56⟩) (by assumption) ?r56
              case' i56 => simp only [List.getElem?_toArray, List.getElem?_cons_succ, List.getElem?_cons_zero]
              case i56 => rfl
              case q56 => exact fun _ _ _ h => h
              case w56 => rfl
              case y56 => (intro w hSw; go_simp) <;> with_reducible rfl
              try simp only [Act.put, List.setIfInBounds_toArray, List.set_cons_zero, List.set_cons_succ]
              refine wpAnyH_take (i := 19) (oi := ?o57) (v := ?v57) ?i57 (by kernel_rfl) (by kernel_rfl) (by kernel_rfl) ?q57 (Or.inl ⟨?w57, ?y57⟩) (by assumption) ?r57
              case' i57 => simp only [List.getElem?_toArray, List.getElem?_cons_succ, List.getElem?_cons_zero]
              case i57 => rfl
              case q57 => exact fun _ _ _ h => h
              case w57 => rfl
              case y57 => (intro w hSw; go_simp) <;> with_reducible rfl
              try simp only [Act.put, List.setIfInBounds_toArray, List.set_cons_zero, List.set_cons_succ]
              refine wpAnyH_take (i := 20) (oi := ?o58) (v := ?v58) ?i58 (by kernel_rfl) (by kernel_rfl) (by kernel_rfl) ?q58 (Or.inl ⟨?w58, ?y58⟩) (by assumption) ?r58
              case' i58 => simp only [List.getElem?_toArray, List.getElem?_cons_succ, List.getElem?_cons_zero]
              case i58 => rfl
              case q58 => exact fun _ _ _ h => h
              case w58 => rfl
              case y58 => (intro w hSw; go_simp) <;> with_reducible rfl
              try simp only [Act.put, List.setIfInBounds_toArray, List.set_cons_zero, List.set_cons_succ]
              refine wpAnyH_take (i := 21) (oi := ?o59) (v := ?v59) ?i59 (by kernel_rfl) (by kernel_rfl) (by kernel_rfl) ?q59 (Or.inl ⟨?w59, ?y59⟩) (by assumption) ?r59
              case' i59 => simp only [List.getElem?_toArray, List.getElem?_cons_succ, List.getElem?_cons_zero]
              case i59 => rfl
              case q59 => exact fun _ _ _ h => h
              case w59 => rfl
              case y59 => (intro w hSw; go_simp) <;> with_reducible rfl
              try simp only [Act.put, List.setIfInBounds_toArray, List.set_cons_zero, List.set_cons_succ]
              refine wpAnyH_take (i := 22) (oi := ?o60) (v := ?v60) ?i60 (by kernel_rfl) (by kernel_rfl) (by kernel_rfl) ?q60 (Or.inl ⟨?w60, ?y60⟩) (by assumption) ?r60
              case' i60 => simp only [List.getElem?_toArray, List.getElem?_cons_succ, List.getElem?_cons_zero]
              case i60 => rfl
              case q60 => exact fun _ _ _ h => h
              case w60 => rfl
              case y60 => (intro w hSw; go_simp) <;> with_reducible rfl
              try simp only [Act.put, List.setIfInBounds_toArray, List.set_cons_zero, List.set_cons_succ]
              refine wpAnyH_take (i := 23) (oi := ?o61) (v := ?v61) ?i61 (by kernel_rfl) (by kernel_rfl) (by kernel_rfl) ?q61 (Or.inl ⟨?w61, ?y61⟩) (by assumption) ?r61
              case' i61 => simp only [List.getElem?_toArray, List.getElem?_cons_succ, List.getElem?_cons_zero]
              case i61 => rfl
              case q61 => exact fun _ _ _ h => h
              case w61 => rfl
              case y61 => (intro w hSw; obtain ⟨k0, k1, k2, k3, k4⟩ := hSw; go_simp) <;> with_reducible rfl
              try simp only [Act.put, List.setIfInBounds_toArray, List.set_cons_zero, List.set_cons_succ]
              refine wpAnyH_take (i := 24) (oi := ?o62) (v := ?v62) ?i62 (by kernel_rfl) (by kernel_rfl) (by kernel_rfl) ?q62 (Or.inl ⟨?w62, ?y62⟩) (by assumption) ?r62
              case' i62 => simp only [List.getElem?_toArray, List.getElem?_cons_succ, List.getElem?_cons_zero]
              case i62 => rfl
              case q62 => exact fun _ _ _ h => h
              case w62 => rfl
              case y62 => (intro w hSw; go_simp) <;> with_reducible rfl
              try simp only [Act.put, List.setIfInBounds_toArray, List.set_cons_zero, List.set_cons_succ]
              refine wpAnyH_take (i := 25) (oi := ?o63) (v := ?v63) ?i63 (by kernel_rfl) (by kernel_rfl) (by kernel_rfl) ?q63 (Or.inl ⟨?w63, ?y63⟩) (by assumption) ?r63
              case' i63 => simp only [List.getElem?_toArray, List.getElem?_cons_succ, List.getElem?_cons_zero]
              case i63 => rfl
              case q63 => exact fun _ _ _ h => h
              case w63 => rfl
              case y63 => (intro w hSw; go_simp) <;> with_reducible rfl
              try simp only [Act.put, List.setIfInBounds_toArray, List.set_cons_zero, List.set_cons_succ]
              refine wpAnyH_take (i := 26) (oi := ?o64) (v := ?v64) ?i64 (by kernel_rfl) (by kernel_rfl) (by kernel_rfl) ?q64 (Or.inl ⟨?w64, ?y64⟩) (by assumption) ?r64
              case' i64 => simp only [List.getElem?_toArray, List.getElem?_cons_succ, List.getElem?_cons_zero]
              case i64 => rfl
              case q64 => exact fun _ _ _ h => h
              case w64 => rfl
              case y64 => (intro w hSw; go_simp) <;> with_reducible rfl
              try simp only [Act.put, List.setIfInBounds_toArray, List.set_cons_zero, List.set_cons_succ]
              refine wpAnyH_take (i := 27) (oi := ?o65) (v := ?v65) ?i65 (by kernel_rfl) (by kernel_rfl) (by kernel_rfl) ?q65 (Or.inl ⟨?w65, ?y65⟩) (by assumption) ?r65
              case' i65 => simp only [List.getElem?_toArray, List.getElem?_cons_succ, List.getElem?_cons_zero]
              case i65 => rfl
              case q65 => exact fun _ _ _ h => h
              case w65 => rfl
              case y65 => (intro w hSw; go_simp) <;> with_reducible rfl
              try simp only [Act.put, List.setIfInBounds_toArray, List.set_cons_zero, List.set_cons_succ]
              refine wpAnyH_take (i := 28) (oi := ?o66) (v := ?v66) ?i66 (by kernel_rfl) (by kernel_rfl) (by kernel_rfl) ?q66 (Or.inl ⟨?w66, ?y66⟩) (by assumption) ?r66
              case' i66 => simp only [List.getElem?_toArray, List.getElem?_cons_succ, List.getElem?_cons_zero]
              case i66 => rfl
              case q66 => exact fun _ _ _ h => h
              case w66 => rfl
              case y66 => (intro w hSw; go_simp) <;> with_reducible rfl
              try simp only [Act.put, List.setIfInBounds_toArray, List.set_cons_zero, List.set_cons_succ]
              refine wpAnyH_take (i := 29) (oi := ?o67) (v := ?v67) ?i67 (by kernel_rfl) (by kernel_rfl) (by kernel_rfl) ?q67 (Or.inl ⟨?w67, ?y67⟩) (by assumption) ?r67
              case' i67 => simp only [List.getElem?_toArray, List.getElem?_cons_succ, List.getElem?_cons_zero]
              case i67 => rfl
              case q67 => exact fun _ _ _ h => h
              case w67 => rfl
              case y67 => (intro w hSw; go_simp) <;> with_reducible rfl
              try simp only [Act.put, List.setIfInBounds_toArray, List.set_cons_zero, List.set_cons_succ]
              refine wpAnyH_take (i := 30) (oi := ?o68) (v := ?v68) ?i68 (by kernel_rfl) (by kernel_rfl) (by kernel_rfl) ?q68 (Or.inl ⟨?w68, ?y68⟩) (by assumption) ?r68
              case' i68 => simp only [List.getElem?_toArray, List.getElem?_cons_succ, List.getElem?_cons_zero]
              case i68 => rfl
              case q68 => exact fun _ _ _ h => h
              case w68 => rfl
              case y68 => (intro w hSw; go_simp) <;> with_reducible rfl
              try simp only [Act.put, List.setIfInBounds_toArray, List.set_cons_zero, List.set_cons_succ]
              refine wpAnyH_take (i := 31) (oi := ?o69) (v := ?v69) ?i69 (by kernel_rfl) (by kernel_rfl) (by kernel_rfl) ?q69 (Or.inl ⟨?w69, ?y69⟩) (by assumption) ?r69
              case' i69 => simp only [List.getElem?_toArray, List.getElem?_cons_succ, List.getElem?_cons_zero]
              case i69 => rfl
              case q69 => exact fun _ _ _ h => h
              case w69 => rfl
              case y69 => (intro w hSw; go_simp) <;> with_reducible rfl
              try simp only [Act.put, List.setIfInBounds_toArray, List.set_cons_zero, List.set_cons_succ]
              refine wpAnyH_take (i := 32) (oi := ?o70) (v := ?v70) ?i70 (by kernel_rfl) (by kernel_rfl) (by kernel_rfl) ?q70 (Or.inl ⟨?w70, ?y70⟩) (by assumption) ?r70
              case' i70 => simp only [List.getElem?_toArray, List.getElem?_cons_succ, List.getElem?_cons_zero]
              case i70 => rfl
              case q70 => exact fun _ _ _ h => h
              case w70 => rfl
              case y70 => (intro w hSw; go_simp) <;> with_reducible rfl
              try simp only [Act.put, List.setIfInBounds_toArray, List.set_cons_zero, List.set_cons_succ]
              refine wpAnyH_take (i := 33) (oi := ?o71) (v := ?v71) ?i71 (by kernel_rfl) (by kernel_rfl) (by kernel_rfl) ?q71 (Or.inl ⟨?w71, ?y71⟩) (by assumption) ?r71
              case' i71 => simp only [List.getElem?_toArray, List.getElem?_cons_succ, List.getElem?_cons_zero]
              case i71 => rfl
              case q71 => exact fun _ _ _ h => h
              case w71 => rfl
              case y71 => (intro w hSw; obtain ⟨k0, k1, k2, k3, k4⟩ := hSw; go_simp) <;> with_reducible rfl
              try simp only [Act.put, List.setIfInBounds_toArray, List.set_cons_zero, List.set_cons_succ]
              refine wpAnyH_take (i := 34) (oi := ?o72) (v := ?v72) ?i72 (by kernel_rfl) (by kernel_rfl) (by kernel_rfl) ?q72 (Or.inl ⟨?w72, ?y72⟩) (by assumption) ?r72
              case' i72 => simp only [List.getElem?_toArray, List.getElem?_cons_succ, List.getElem?_cons_zero]
              case i72 => rfl
              case q72 => exact fun _ _ _ h => h
              case w72 => rfl
              case y72 => (intro w hSw; go_simp) <;> with_reducible rfl
              try simp only [Act.put, List.setIfInBounds_toArray, List.set_cons_zero, List.set_cons_succ]
              refine wpAnyH_take (i := 35) (oi := ?o73) (v := ?v73) ?i73 (by kernel_rfl) (by kernel_rfl) (by kernel_rfl) ?q73 (Or.inl ⟨?w73, ?y73⟩) (by assumption) ?r73
              case' i73 => simp only [List.getElem?_toArray, List.getElem?_cons_succ, List.getElem?_cons_zero]
              case i73 => rfl
              case q73 => exact fun _ _ _ h => h
              case w73 => rfl
              case y73 => (intro w hSw; go_simp) <;> with_reducible rfl
              try simp only [Act.put, List.setIfInBounds_toArray, List.set_cons_zero, List.set_cons_succ]
              refine wpAnyH_take (i := 36) (oi := ?o74) (v := ?v74) ?i74 (by kernel_rfl) (by kernel_rfl) (by kernel_rfl) ?q74 (Or.inl ⟨?w74, ?y74⟩) (by assumption) ?r74
              case' i74 => simp only [List.getElem?_toArray, List.getElem?_cons_succ, List.getElem?_cons_zero]
              case i74 => rfl
              case q74 => exact fun _ _ _ h => h
              case w74 => rfl
              case y74 => (intro w hSw; go_simp) <;> with_reducible rfl
              try simp only [Act.put, List.setIfInBounds_toArray, List.set_cons_zero, List.set_cons_succ]
              refine wpAnyH_done (by kernel_rfl) ?_ _
              obtain ⟨k0, k1, k2, k3, k4⟩ := hHeld
              have hcat : (9223372036854775807 < g.size + s.size) = False := by have := HG.out; have := HS1.out; have := HK.out; simp; omega
              go_wp2_with fail
              go_roundw
              case rel => exact ⟨k + 1, g ++ s, by have := HK.out; omega, by have := HK.out; omega, by go_num, rfl, Lib.hid (by have := HG.out; have := HS1.out; rw [ByteArray.size_append]; omega), Lib.hid (by rw [HT.out, catF_app, ← HGC.out]), HOK2, HBB⟩
              case measure => have := HK.out; simp [intOf]; omega
            · have q3 : (ix != (k : Int)) = true := by simp [hb1]
              have HJ2 : Hid (joinF fs = (⟨#[]⟩, 3)) := Lib.hid (join_bad (k := k) HKN.out (by
                cases hq : okAt (fs.getD 0 zeroF).id fs.length k (fs.getD k zeroF) with
                | false => rfl
                | true =>
                  rw [HID.out, HZ.out] at hq
                  obtain ⟨q1, q2, q3, q4⟩ := okAt_iff.1 hq
                  dsimp only at q2 q3 q4
                  have := HN.out
                  first | (rw [HRT.out] at q1; exact absurd q1 (by decide)) | (exact absurd q2 hb1) | (exact absurd (by rw [q3, ← HN.out]) hb1) | (exact absurd q4 hb1)))
              clear hb1
              go_wp2_with fail
              refine wp_region_held_drew (S := fun u => u.cell? ⟨bk, off + k * 4, none⟩ = some (.int .u64 id) ∧ u.cell? ⟨bk, off + k * 4 + 1, none⟩ = some (.int .i64 ix) ∧ u.cell? ⟨bk, off + k * 4 + 2, none⟩ = some (.int .i64 ct) ∧ u.cell? ⟨bk, off + k * 4 + 3, none⟩ = some (.string s) ∧ u.cell? ⟨bk, off, none⟩ = some (.int .u64 id0)) (by kernel_rfl) ⟨c0, c1, c2, c3, z0⟩ (fun hHeld => ?_)
              have HBB := Lib.hid (below_drewn HB.out)
              clear HB c0 c1 c2 c3 z0
              refine wpAnyH_take (i := 0) (oi := ?o75) (v := ?v75) ?i75 (by kernel_rfl) (by kernel_rfl) (by kernel_rfl) ?q75 (Or.inl ⟨?w75, ?y75⟩) (by assumption) ?r75
              case' i75 => simp only [List.getElem?_toArray, List.getElem?_cons_succ, List.getElem?_cons_zero]
              case i75 => rfl
              case q75 => exact fun _ _ _ h => h
              case w75 => rfl
              case y75 => (intro w hSw; go_simp) <;> with_reducible rfl
              try simp only [Act.put, List.setIfInBounds_toArray, List.set_cons_zero, List.set_cons_succ]
              refine wpAnyH_take (i := 1) (oi := ?o76) (v := ?v76) ?i76 (by kernel_rfl) (by kernel_rfl) (by kernel_rfl) ?q76 (Or.inl ⟨?w76, ?y76⟩) (by assumption) ?r76
              case' i76 => simp only [List.getElem?_toArray, List.getElem?_cons_succ, List.getElem?_cons_zero]
              case i76 => rfl
              case q76 => exact fun _ _ _ h => h
              case w76 => rfl
              case y76 => (intro w hSw; go_simp) <;> with_reducible rfl
              try simp only [Act.put, List.setIfInBounds_toArray, List.set_cons_zero, List.set_cons_succ]
              refine wpAnyH_take (i := 2) (oi := ?o77) (v := ?v77) ?i77 (by kernel_rfl) (by kernel_rfl) (by kernel_rfl) ?q77 (Or.inl ⟨?w77, ?y77⟩) (by assumption) ?r77
              case' i77 => simp only [List.getElem?_toArray, List.getElem?_cons_succ, List.getElem?_cons_zero]
              case i77 => rfl
              case q77 => exact fun _ _ _ h => h
              case w77 => rfl
              case y77 => (intro w hSw; go_simp) <;> with_reducible rfl
              try simp only [Act.put, List.setIfInBounds_toArray, List.set_cons_zero, List.set_cons_succ]
              refine wpAnyH_take (i := 3) (oi := ?o78) (v := ?v78) ?i78 (by kernel_rfl) (by kernel_rfl) (by kernel_rfl) ?q78 (Or.inl ⟨?w78, ?y78⟩) (by assumption) ?r78
              case' i78 => simp only [List.getElem?_toArray, List.getElem?_cons_succ, List.getElem?_cons_zero]
              case i78 => rfl
              case q78 => exact fun _ _ _ h => h
              case w78 => rfl
              case y78 => (intro w hSw; obtain ⟨k0, k1, k2, k3, k4⟩ := hSw; go_simp) <;> with_reducible rfl
              try simp only [Act.put, List.setIfInBounds_toArray, List.set_cons_zero, List.set_cons_succ]
              refine wpAnyH_ready (rs := [4]) (by kernel_rfl) (by simp) ?_
              refine AllReadyH.cons (o := ?o79) ?i79 (fun K' hK => ?_) AllReadyH.nil
              case' i79 => simp only [List.getElem?_toArray, List.getElem?_cons_succ, List.getElem?_cons_zero]
              case i79 => rfl
              go_simp
              go_at_call 21
              refine (rright_f id ix ct s _ HSZ.out true HRT).mono ?_
              rintro e w' ⟨rfl, hb⟩
              have HBB' := Lib.hid (HBB.out.trans (hb.mono HBB.out.size))
              have hHeld' : w'.cell? ⟨bk, off + k * 4, none⟩ = some (.int .u64 id) ∧ w'.cell? ⟨bk, off + k * 4 + 1, none⟩ = some (.int .i64 ix) ∧ w'.cell? ⟨bk, off + k * 4 + 2, none⟩ = some (.int .i64 ct) ∧ w'.cell? ⟨bk, off + k * 4 + 3, none⟩ = some (.string s) ∧ w'.cell? ⟨bk, off, none⟩ = some (.int .u64 id0) := ⟨(hb.cell (block_lt_of_cell hHeld.1)).trans hHeld.1, (hb.cell (block_lt_of_cell hHeld.2.1)).trans hHeld.2.1, (hb.cell (block_lt_of_cell hHeld.2.2.1)).trans hHeld.2.2.1, (hb.cell (block_lt_of_cell hHeld.2.2.2.1)).trans hHeld.2.2.2.1, (hb.cell (block_lt_of_cell hHeld.2.2.2.2)).trans hHeld.2.2.2.2⟩
              clear HBB hb
              have HBB := HBB'
              clear HBB'
              go_wp2_with fail
              refine hK.out _ _ hHeld' (fun _ => ?_)
              clear hK K' hHeld
              have hHeld := hHeld'
              clear hHeld'
              try simp only [Act.put, List.setIfInBounds_toArray, List.set_cons_zero, List.set_cons_succ]
              refine wpAnyH_take (i := 5) (oi := ?o80) (v := ?v80) ?i80 (by kernel_rfl) (by kernel_rfl) (by kernel_rfl) ?q80 (Or.inl ⟨?w80, ?y80⟩) (by assumption) ?r80
              case' i80 => simp only [List.getElem?_toArray, List.getElem?_cons_succ, List.getElem?_cons_zero]
              case i80 => rfl
              case q80 => exact fun _ _ _ h => h
              case w80 => rfl
              case y80 => (intro w hSw; go_simp) <;> with_reducible rfl
              try simp only [Act.put, List.setIfInBounds_toArray, List.set_cons_zero, List.set_cons_succ]
              refine wpAnyH_take (i := 6) (oi := ?o81) (v := ?v81) ?i81 (by kernel_rfl) (by kernel_rfl) (by kernel_rfl) ?q81 (Or.inl ⟨?w81, ?y81⟩) (by assumption) ?r81
              case' i81 => simp only [List.getElem?_toArray, List.getElem?_cons_succ, List.getElem?_cons_zero]
              case i81 => rfl
              case q81 => exact fun _ _ _ h => h
              case w81 => rfl
              case y81 => (intro w hSw; go_simp) <;> with_reducible rfl
              try simp only [Act.put, List.setIfInBounds_toArray, List.set_cons_zero, List.set_cons_succ]
              refine wpAnyH_take (i := 7) (oi := ?o82) (v := ?v82) ?i82 (by kernel_rfl) (by kernel_rfl) (by kernel_rfl) ?q82 (Or.inl ⟨?w82, ?y82⟩) (by assumption) ?r82
              case' i82 => simp only [List.getElem?_toArray, List.getElem?_cons_succ, List.getElem?_cons_zero]
              case i82 => rfl
              case q82 => exact fun _ _ _ h => h
              case w82 => rfl
              case y82 => (intro w hSw; go_simp) <;> with_reducible rfl
              try simp only [Act.put, List.setIfInBounds_toArray, List.set_cons_zero, List.set_cons_succ]
              refine wpAnyH_take (i := 8) (oi := ?o83) (v := ?v83) ?i83 (by kernel_rfl) (by kernel_rfl) (by kernel_rfl) ?q83 (Or.inl ⟨?w83, ?y83⟩) (by assumption) ?r83
              case' i83 => simp only [List.getElem?_toArray, List.getElem?_cons_succ, List.getElem?_cons_zero]
              case i83 => rfl
              case q83 => exact fun _ _ _ h => h
              case w83 => rfl
              case y83 => (intro w hSw; go_simp) <;> with_reducible rfl
              try simp only [Act.put, List.setIfInBounds_toArray, List.set_cons_zero, List.set_cons_succ]
              refine wpAnyH_take (i := 9) (oi := ?o84) (v := ?v84) ?i84 (by kernel_rfl) (by kernel_rfl) (by kernel_rfl) ?q84 (Or.inl ⟨?w84, ?y84⟩) (by assumption) ?r84
              case' i84 => simp only [List.getElem?_toArray, List.getElem?_cons_succ, List.getElem?_cons_zero]
              case i84 => rfl
              case q84 => exact fun _ _ _ h => h
              case w84 => rfl
              case y84 => (intro w hSw; go_simp) <;> with_reducible rfl
              try simp only [Act.put, List.setIfInBounds_toArray, List.set_cons_zero, List.set_cons_succ]
              refine wpAnyH_take (i := 10) (oi := ?o85) (v := ?v85) ?i85 (by kernel_rfl) (by kernel_rfl) (by kernel_rfl) ?q85 (Or.inl ⟨?w85, ?y85⟩) (by assumption) ?r85
              case' i85 => simp only [List.getElem?_toArray, List.getElem?_cons_succ, List.getElem?_cons_zero]
              case i85 => rfl
              case q85 => exact fun _ _ _ h => h
              case w85 => rfl
              case y85 => (intro w hSw; go_simp) <;> with_reducible rfl
              try simp only [Act.put, List.setIfInBounds_toArray, List.set_cons_zero, List.set_cons_succ]
              refine wpAnyH_take (i := 11) (oi := ?o86) (v := ?v86) ?i86 (by kernel_rfl) (by kernel_rfl) (by kernel_rfl) ?q86 (Or.inl ⟨?w86, ?y86⟩) (by assumption) ?r86
              case' i86 => simp only [List.getElem?_toArray, List.getElem?_cons_succ, List.getElem?_cons_zero]
              case i86 => rfl
              case q86 => exact fun _ _ _ h => h
              case w86 => rfl
              case y86 => (intro w hSw; obtain ⟨k0, k1, k2, k3, k4⟩ := hSw; go_simp) <;> with_reducible rfl
              try simp only [Act.put, List.setIfInBounds_toArray, List.set_cons_zero, List.set_cons_succ]
              refine wpAnyH_take (i := 12) (oi := ?o87) (v := ?v87) ?i87 (by kernel_rfl) (by kernel_rfl) (by kernel_rfl) ?q87 (Or.inl ⟨?w87, ?y87⟩) (by assumption) ?r87
              case' i87 => simp only [List.getElem?_toArray, List.getElem?_cons_succ, List.getElem?_cons_zero]
              case i87 => rfl
              case q87 => exact fun _ _ _ h => h
              case w87 => rfl
              case y87 => (intro w hSw; go_simp) <;> with_reducible rfl
              try simp only [Act.put, List.setIfInBounds_toArray, List.set_cons_zero, List.set_cons_succ]
              refine wpAnyH_take (i := 13) (oi := ?o88) (v := ?v88) ?i88 (by kernel_rfl) (by kernel_rfl) (by kernel_rfl) ?q88 (Or.inl ⟨?w88, ?y88⟩) (by assumption) ?r88
              case' i88 => simp only [List.getElem?_toArray, List.getElem?_cons_succ, List.getElem?_cons_zero]
              case i88 => rfl
              case q88 => exact fun _ _ _ h => h
              case w88 => rfl
              case y88 => (intro w hSw; go_simp) <;> with_reducible rfl
              try simp only [Act.put, List.setIfInBounds_toArray, List.set_cons_zero, List.set_cons_succ]
              refine wpAnyH_take (i := 14) (oi := ?o89) (v := ?v89) ?i89 (by kernel_rfl) (by kernel_rfl) (by kernel_rfl) ?q89 (Or.inl ⟨?w89, ?y89⟩) (by assumption) ?r89
              case' i89 => simp only [List.getElem?_toArray, List.getElem?_cons_succ, List.getElem?_cons_zero]
              case i89 => rfl
              case q89 => exact fun _ _ _ h => h
              case w89 => rfl
              case y89 => (intro w hSw; go_simp) <;> with_reducible rfl
              try simp only [Act.put, List.setIfInBounds_toArray, List.set_cons_zero, List.set_cons_succ]
              refine wpAnyH_take (i := 15) (oi := ?o90) (v := ?v90) ?i90 (by kernel_rfl) (by kernel_rfl) (by kernel_rfl) ?q90 (Or.inl ⟨?w90, ?y90⟩) (by assumption) ?r90
              case' i90 => simp only [List.getElem?_toArray, List.getElem?_cons_succ, List.getElem?_cons_zero]
              case i90 => rfl
              case q90 => exact fun _ _ _ h => h
              case w90 => rfl
              case y90 => (intro w hSw; obtain ⟨k0, k1, k2, k3, k4⟩ := hSw; go_simp) <;> with_reducible rfl
              try simp only [Act.put, List.setIfInBounds_toArray, List.set_cons_zero, List.set_cons_succ]
              refine wpAnyH_take (i := 16) (oi := ?o91) (v := ?v91) ?i91 (by kernel_rfl) (by kernel_rfl) (by kernel_rfl) ?q91 (Or.inl ⟨?w91, ?y91⟩) (by assumption) ?r91
              case' i91 => simp only [List.getElem?_toArray, List.getElem?_cons_succ, List.getElem?_cons_zero]
              case i91 => rfl
              case q91 => exact fun _ _ _ h => h
              case w91 => rfl
              case y91 => (intro w hSw; go_simp) <;> with_reducible rfl
              try simp only [Act.put, List.setIfInBounds_toArray, List.set_cons_zero, List.set_cons_succ]
              refine wpAnyH_take (i := 17) (oi := ?o92) (v := ?v92) ?i92 (by kernel_rfl) (by kernel_rfl) (by kernel_rfl) ?q92 (Or.inl ⟨?w92, ?y92⟩) (by assumption) ?r92
              case' i92 => simp only [List.getElem?_toArray, List.getElem?_cons_succ, List.getElem?_cons_zero]
              case i92 => rfl
              case q92 => exact fun _ _ _ h => h
              case w92 => rfl
              case y92 => (intro w hSw; go_simp) <;> with_reducible rfl
              try simp only [Act.put, List.setIfInBounds_toArray, List.set_cons_zero, List.set_cons_succ]
              refine wpAnyH_take (i := 18) (oi := ?o93) (v := ?v93) ?i93 (by kernel_rfl) (by kernel_rfl) (by kernel_rfl) ?q93 (Or.inl ⟨?w93, ?y93⟩) (by assumption) ?r93
              case' i93 => simp only [List.getElem?_toArray, List.getElem?_cons_succ, List.getElem?_cons_zero]
              case i93 => rfl
              case q93 => exact fun _ _ _ h => h
              case w93 => rfl
              case y93 => (intro w hSw; go_simp) <;> with_reducible rfl
              try simp only [Act.put, List.setIfInBounds_toArray, List.set_cons_zero, List.set_cons_succ]
              refine wpAnyH_take (i := 19) (oi := ?o94) (v := ?v94) ?i94 (by kernel_rfl) (by kernel_rfl) (by kernel_rfl) ?q94 (Or.inl ⟨?w94, ?y94⟩) (by assumption) ?r94
              case' i94 => simp only [List.getElem?_toArray, List.getElem?_cons_succ, List.getElem?_cons_zero]
              case i94 => rfl
              case q94 => exact fun _ _ _ h => h
              case w94 => rfl
              case y94 => (intro w hSw; go_simp) <;> with_reducible rfl
              try simp only [Act.put, List.setIfInBounds_toArray, List.set_cons_zero, List.set_cons_succ]
              refine wpAnyH_take (i := 20) (oi := ?o95) (v := ?v95) ?i95 (by kernel_rfl) (by kernel_rfl) (by kernel_rfl) ?q95 (Or.inl ⟨?w95, ?y95⟩) (by assumption) ?r95
              case' i95 => simp only [List.getElem?_toArray, List.getElem?_cons_succ, List.getElem?_cons_zero]
              case i95 => rfl
              case q95 => exact fun _ _ _ h => h
              case w95 => rfl
              case y95 => (intro w hSw; go_simp) <;> with_reducible rfl
              try simp only [Act.put, List.setIfInBounds_toArray, List.set_cons_zero, List.set_cons_succ]
              refine wpAnyH_take (i := 21) (oi := ?o96) (v := ?v96) ?i96 (by kernel_rfl) (by kernel_rfl) (by kernel_rfl) ?q96 (Or.inl ⟨?w96, ?y96⟩) (by assumption) ?r96
              case' i96 => simp only [List.getElem?_toArray, List.getElem?_cons_succ, List.getElem?_cons_zero]
              case i96 => rfl
              case q96 => exact fun _ _ _ h => h
              case w96 => rfl
              case y96 => (intro w hSw; go_simp) <;> with_reducible rfl
              try simp only [Act.put, List.setIfInBounds_toArray, List.set_cons_zero, List.set_cons_succ]
              refine wpAnyH_take (i := 22) (oi := ?o97) (v := ?v97) ?i97 (by kernel_rfl) (by kernel_rfl) (by kernel_rfl) ?q97 (Or.inl ⟨?w97, ?y97⟩) (by assumption) ?r97
              case' i97 => simp only [List.getElem?_toArray, List.getElem?_cons_succ, List.getElem?_cons_zero]
              case i97 => rfl
              case q97 => exact fun _ _ _ h => h
              case w97 => rfl
              case y97 => (intro w hSw; go_simp) <;> with_reducible rfl
              try simp only [Act.put, List.setIfInBounds_toArray, List.set_cons_zero, List.set_cons_succ]
              refine wpAnyH_take (i := 23) (oi := ?o98) (v := ?v98) ?i98 (by kernel_rfl) (by kernel_rfl) (by kernel_rfl) ?q98 (Or.inl ⟨?w98, ?y98⟩) (by assumption) ?r98
              case' i98 => simp only [List.getElem?_toArray, List.getElem?_cons_succ, List.getElem?_cons_zero]
              case i98 => rfl
              case q98 => exact fun _ _ _ h => h
              case w98 => rfl
              case y98 => (intro w hSw; obtain ⟨k0, k1, k2, k3, k4⟩ := hSw; go_simp) <;> with_reducible rfl
              try simp only [Act.put, List.setIfInBounds_toArray, List.set_cons_zero, List.set_cons_succ]
              refine wpAnyH_take (i := 24) (oi := ?o99) (v := ?v99) ?i99 (by kernel_rfl) (by kernel_rfl) (by kernel_rfl) ?q99 (Or.inl ⟨?w99, ?y99⟩) (by assumption) ?r99
              case' i99 => simp only [List.getElem?_toArray, List.getElem?_cons_succ, List.getElem?_cons_zero]
              case i99 => rfl
              case q99 => exact fun _ _ _ h => h
              case w99 => rfl
              case y99 => (intro w hSw; go_simp) <;> with_reducible rfl
              try simp only [Act.put, List.setIfInBounds_toArray, List.set_cons_zero, List.set_cons_succ]
              refine wpAnyH_take (i := 25) (oi := ?o100) (v := ?v100) ?i100 (by kernel_rfl) (by kernel_rfl) (by kernel_rfl) ?q100 (Or.inl ⟨?w100, ?y100⟩) (by assumption) ?r100
              case' i100 => simp only [List.getElem?_toArray, List.getElem?_cons_succ, List.getElem?_cons_zero]
              case i100 => rfl
              case q100 => exact fun _ _ _ h => h
              case w100 => rfl
              case y100 => (intro w hSw; go_simp) <;> with_reducible rfl
              try simp only [Act.put, List.setIfInBounds_toArray, List.set_cons_zero, List.set_cons_succ]
              refine wpAnyH_take (i := 26) (oi := ?o101) (v := ?v101) ?i101 (by kernel_rfl) (by kernel_rfl) (by kernel_rfl) ?q101 (Or.inl ⟨?w101, ?y101⟩) (by assumption) ?r101
              case' i101 => simp only [List.getElem?_toArray, List.getElem?_cons_succ, List.getElem?_cons_zero]
              case i101 => rfl
              case q101 => exact fun _ _ _ h => h
              case w101 => rfl
              case y101 => (intro w hSw; go_simp) <;> with_reducible rfl
              try simp only [Act.put, List.setIfInBounds_toArray, List.set_cons_zero, List.set_cons_succ]
              refine wpAnyH_take (i := 27) (oi := ?o102) (v := ?v102) ?i102 (by kernel_rfl) (by kernel_rfl) (by kernel_rfl) ?q102 (Or.inl ⟨?w102, ?y102⟩) (by assumption) ?r102
              case' i102 => simp only [List.getElem?_toArray, List.getElem?_cons_succ, List.getElem?_cons_zero]
              case i102 => rfl
              case q102 => exact fun _ _ _ h => h
              case w102 => rfl
              case y102 => (intro w hSw; go_simp) <;> with_reducible rfl
              try simp only [Act.put, List.setIfInBounds_toArray, List.set_cons_zero, List.set_cons_succ]
              refine wpAnyH_take (i := 28) (oi := ?o103) (v := ?v103) ?i103 (by kernel_rfl) (by kernel_rfl) (by kernel_rfl) ?q103 (Or.inl ⟨?w103, ?y103⟩) (by assumption) ?r103
              case' i103 => simp only [List.getElem?_toArray, List.getElem?_cons_succ, List.getElem?_cons_zero]
              case i103 => rfl
              case q103 => exact fun _ _ _ h => h
              case w103 => rfl
              case y103 => (intro w hSw; go_simp) <;> with_reducible rfl
              try simp only [Act.put, List.setIfInBounds_toArray, List.set_cons_zero, List.set_cons_succ]
              refine wpAnyH_take (i := 29) (oi := ?o104) (v := ?v104) ?i104 (by kernel_rfl) (by kernel_rfl) (by kernel_rfl) ?q104 (Or.inl ⟨?w104, ?y104⟩) (by assumption) ?r104
              case' i104 => simp only [List.getElem?_toArray, List.getElem?_cons_succ, List.getElem?_cons_zero]
              case i104 => rfl
              case q104 => exact fun _ _ _ h => h
              case w104 => rfl
              case y104 => (intro w hSw; go_simp) <;> with_reducible rfl
              try simp only [Act.put, List.setIfInBounds_toArray, List.set_cons_zero, List.set_cons_succ]
              refine wpAnyH_take (i := 30) (oi := ?o105) (v := ?v105) ?i105 (by kernel_rfl) (by kernel_rfl) (by kernel_rfl) ?q105 (Or.inl ⟨?w105, ?y105⟩) (by assumption) ?r105
              case' i105 => simp only [List.getElem?_toArray, List.getElem?_cons_succ, List.getElem?_cons_zero]
              case i105 => rfl
              case q105 => exact fun _ _ _ h => h
              case w105 => rfl
              case y105 => (intro w hSw; go_simp) <;> with_reducible rfl
              try simp only [Act.put, List.setIfInBounds_toArray, List.set_cons_zero, List.set_cons_succ]
              refine wpAnyH_take (i := 31) (oi := ?o106) (v := ?v106) ?i106 (by kernel_rfl) (by kernel_rfl) (by kernel_rfl) ?q106 (Or.inl ⟨?w106, ?y106⟩) (by assumption) ?r106
              case' i106 => simp only [List.getElem?_toArray, List.getElem?_cons_succ, List.getElem?_cons_zero]
              case i106 => rfl
              case q106 => exact fun _ _ _ h => h
              case w106 => rfl
              case y106 => (intro w hSw; go_simp) <;> with_reducible rfl
              try simp only [Act.put, List.setIfInBounds_toArray, List.set_cons_zero, List.set_cons_succ]
              refine wpAnyH_take (i := 32) (oi := ?o107) (v := ?v107) ?i107 (by kernel_rfl) (by kernel_rfl) (by kernel_rfl) ?q107 (Or.inl ⟨?w107, ?y107⟩) (by assumption) ?r107
              case' i107 => simp only [List.getElem?_toArray, List.getElem?_cons_succ, List.getElem?_cons_zero]
              case i107 => rfl
              case q107 => exact fun _ _ _ h => h
              case w107 => rfl
              case y107 => (intro w hSw; go_simp) <;> with_reducible rfl
              try simp only [Act.put, List.setIfInBounds_toArray, List.set_cons_zero, List.set_cons_succ]
              refine wpAnyH_take (i := 33) (oi := ?o108) (v := ?v108) ?i108 (by kernel_rfl) (by kernel_rfl) (by kernel_rfl) ?q108 (Or.inl ⟨?w108, ?y108⟩) (by assumption) ?r108
              case' i108 => simp only [List.getElem?_toArray, List.getElem?_cons_succ, List.getElem?_cons_zero]
              case i108 => rfl
              case q108 => exact fun _ _ _ h => h
              case w108 => rfl
              case y108 => (intro w hSw; obtain ⟨k0, k1, k2, k3, k4⟩ := hSw; go_simp) <;> with_reducible rfl
              try simp only [Act.put, List.setIfInBounds_toArray, List.set_cons_zero, List.set_cons_succ]
              refine wpAnyH_take (i := 34) (oi := ?o109) (v := ?v109) ?i109 (by kernel_rfl) (by kernel_rfl) (by kernel_rfl) ?q109 (Or.inl ⟨?w109, ?y109⟩) (by assumption) ?r109
              case' i109 => simp only [List.getElem?_toArray, List.getElem?_cons_succ, List.getElem?_cons_zero]
              case i109 => rfl
              case q109 => exact fun _ _ _ h => h
              case w109 => rfl
              case y109 => (intro w hSw; go_simp) <;> with_reducible rfl
              try simp only [Act.put, List.setIfInBounds_toArray, List.set_cons_zero, List.set_cons_succ]
              refine wpAnyH_take (i := 35) (oi := ?o110) (v := ?v110) ?i110 (by kernel_rfl) (by kernel_rfl) (by kernel_rfl) ?q110 (Or.inl ⟨?w110, ?y110⟩) (by assumption) ?r110
              case' i110 => simp only [List.getElem?_toArray, List.getElem?_cons_succ, List.getElem?_cons_zero]
              case i110 => rfl
              case q110 => exact fun _ _ _ h => h
              case w110 => rfl
              case y110 => (intro w hSw; go_simp) <;> with_reducible rfl
              try simp only [Act.put, List.setIfInBounds_toArray, List.set_cons_zero, List.set_cons_succ]
              refine wpAnyH_take (i := 36) (oi := ?o111) (v := ?v111) ?i111 (by kernel_rfl) (by kernel_rfl) (by kernel_rfl) ?q111 (Or.inl ⟨?w111, ?y111⟩) (by assumption) ?r111
              case' i111 => simp only [List.getElem?_toArray, List.getElem?_cons_succ, List.getElem?_cons_zero]
              case i111 => rfl
              case q111 => exact fun _ _ _ h => h
              case w111 => rfl
              case y111 => (intro w hSw; go_simp) <;> with_reducible rfl
              try simp only [Act.put, List.setIfInBounds_toArray, List.set_cons_zero, List.set_cons_succ]
              refine wpAnyH_done (by kernel_rfl) ?_ _
              clear hHeld
              go_wp2
              go_ret2
              exact ⟨jret HJ.out HJ2.out, HBB.out⟩
          · have q2 : (ct != (n : Int)) = true := by simp [hb1]
            have HJ2 : Hid (joinF fs = (⟨#[]⟩, 3)) := Lib.hid (join_bad (k := k) HKN.out (by
              cases hq : okAt (fs.getD 0 zeroF).id fs.length k (fs.getD k zeroF) with
              | false => rfl
              | true =>
                rw [HID.out, HZ.out] at hq
                obtain ⟨q1, q2, q3, q4⟩ := okAt_iff.1 hq
                dsimp only at q2 q3 q4
                have := HN.out
                first | (rw [HRT.out] at q1; exact absurd q1 (by decide)) | (exact absurd q2 hb1) | (exact absurd (by rw [q3, ← HN.out]) hb1) | (exact absurd q4 hb1)))
            clear hb1
            go_wp2_with fail
            refine wp_region_held_drew (S := fun u => u.cell? ⟨bk, off + k * 4, none⟩ = some (.int .u64 id) ∧ u.cell? ⟨bk, off + k * 4 + 1, none⟩ = some (.int .i64 ix) ∧ u.cell? ⟨bk, off + k * 4 + 2, none⟩ = some (.int .i64 ct) ∧ u.cell? ⟨bk, off + k * 4 + 3, none⟩ = some (.string s) ∧ u.cell? ⟨bk, off, none⟩ = some (.int .u64 id0)) (by kernel_rfl) ⟨c0, c1, c2, c3, z0⟩ (fun hHeld => ?_)
            have HBB := Lib.hid (below_drewn HB.out)
            clear HB c0 c1 c2 c3 z0
            refine wpAnyH_take (i := 0) (oi := ?o112) (v := ?v112) ?i112 (by kernel_rfl) (by kernel_rfl) (by kernel_rfl) ?q112 (Or.inl ⟨?w112, ?y112⟩) (by assumption) ?r112
            case' i112 => simp only [List.getElem?_toArray, List.getElem?_cons_succ, List.getElem?_cons_zero]
            case i112 => rfl
            case q112 => exact fun _ _ _ h => h
            case w112 => rfl
            case y112 => (intro w hSw; go_simp) <;> with_reducible rfl
            try simp only [Act.put, List.setIfInBounds_toArray, List.set_cons_zero, List.set_cons_succ]
            refine wpAnyH_take (i := 1) (oi := ?o113) (v := ?v113) ?i113 (by kernel_rfl) (by kernel_rfl) (by kernel_rfl) ?q113 (Or.inl ⟨?w113, ?y113⟩) (by assumption) ?r113
            case' i113 => simp only [List.getElem?_toArray, List.getElem?_cons_succ, List.getElem?_cons_zero]
            case i113 => rfl
            case q113 => exact fun _ _ _ h => h
            case w113 => rfl
            case y113 => (intro w hSw; go_simp) <;> with_reducible rfl
            try simp only [Act.put, List.setIfInBounds_toArray, List.set_cons_zero, List.set_cons_succ]
            refine wpAnyH_take (i := 2) (oi := ?o114) (v := ?v114) ?i114 (by kernel_rfl) (by kernel_rfl) (by kernel_rfl) ?q114 (Or.inl ⟨?w114, ?y114⟩) (by assumption) ?r114
            case' i114 => simp only [List.getElem?_toArray, List.getElem?_cons_succ, List.getElem?_cons_zero]
            case i114 => rfl
            case q114 => exact fun _ _ _ h => h
            case w114 => rfl
            case y114 => (intro w hSw; go_simp) <;> with_reducible rfl
            try simp only [Act.put, List.setIfInBounds_toArray, List.set_cons_zero, List.set_cons_succ]
            refine wpAnyH_take (i := 3) (oi := ?o115) (v := ?v115) ?i115 (by kernel_rfl) (by kernel_rfl) (by kernel_rfl) ?q115 (Or.inl ⟨?w115, ?y115⟩) (by assumption) ?r115
            case' i115 => simp only [List.getElem?_toArray, List.getElem?_cons_succ, List.getElem?_cons_zero]
            case i115 => rfl
            case q115 => exact fun _ _ _ h => h
            case w115 => rfl
            case y115 => (intro w hSw; obtain ⟨k0, k1, k2, k3, k4⟩ := hSw; go_simp) <;> with_reducible rfl
            try simp only [Act.put, List.setIfInBounds_toArray, List.set_cons_zero, List.set_cons_succ]
            refine wpAnyH_ready (rs := [4]) (by kernel_rfl) (by simp) ?_
            refine AllReadyH.cons (o := ?o116) ?i116 (fun K' hK => ?_) AllReadyH.nil
            case' i116 => simp only [List.getElem?_toArray, List.getElem?_cons_succ, List.getElem?_cons_zero]
            case i116 => rfl
            go_simp
            go_at_call 21
            refine (rright_f id ix ct s _ HSZ.out true HRT).mono ?_
            rintro e w' ⟨rfl, hb⟩
            have HBB' := Lib.hid (HBB.out.trans (hb.mono HBB.out.size))
            have hHeld' : w'.cell? ⟨bk, off + k * 4, none⟩ = some (.int .u64 id) ∧ w'.cell? ⟨bk, off + k * 4 + 1, none⟩ = some (.int .i64 ix) ∧ w'.cell? ⟨bk, off + k * 4 + 2, none⟩ = some (.int .i64 ct) ∧ w'.cell? ⟨bk, off + k * 4 + 3, none⟩ = some (.string s) ∧ w'.cell? ⟨bk, off, none⟩ = some (.int .u64 id0) := ⟨(hb.cell (block_lt_of_cell hHeld.1)).trans hHeld.1, (hb.cell (block_lt_of_cell hHeld.2.1)).trans hHeld.2.1, (hb.cell (block_lt_of_cell hHeld.2.2.1)).trans hHeld.2.2.1, (hb.cell (block_lt_of_cell hHeld.2.2.2.1)).trans hHeld.2.2.2.1, (hb.cell (block_lt_of_cell hHeld.2.2.2.2)).trans hHeld.2.2.2.2⟩
            clear HBB hb
            have HBB := HBB'
            clear HBB'
            go_wp2_with fail
            refine hK.out _ _ hHeld' (fun _ => ?_)
            clear hK K' hHeld
            have hHeld := hHeld'
            clear hHeld'
            try simp only [Act.put, List.setIfInBounds_toArray, List.set_cons_zero, List.set_cons_succ]
            refine wpAnyH_take (i := 5) (oi := ?o117) (v := ?v117) ?i117 (by kernel_rfl) (by kernel_rfl) (by kernel_rfl) ?q117 (Or.inl ⟨?w117, ?y117⟩) (by assumption) ?r117
            case' i117 => simp only [List.getElem?_toArray, List.getElem?_cons_succ, List.getElem?_cons_zero]
            case i117 => rfl
            case q117 => exact fun _ _ _ h => h
            case w117 => rfl
            case y117 => (intro w hSw; go_simp) <;> with_reducible rfl
            try simp only [Act.put, List.setIfInBounds_toArray, List.set_cons_zero, List.set_cons_succ]
            refine wpAnyH_take (i := 6) (oi := ?o118) (v := ?v118) ?i118 (by kernel_rfl) (by kernel_rfl) (by kernel_rfl) ?q118 (Or.inl ⟨?w118, ?y118⟩) (by assumption) ?r118
            case' i118 => simp only [List.getElem?_toArray, List.getElem?_cons_succ, List.getElem?_cons_zero]
            case i118 => rfl
            case q118 => exact fun _ _ _ h => h
            case w118 => rfl
            case y118 => (intro w hSw; go_simp) <;> with_reducible rfl
            try simp only [Act.put, List.setIfInBounds_toArray, List.set_cons_zero, List.set_cons_succ]
            refine wpAnyH_take (i := 7) (oi := ?o119) (v := ?v119) ?i119 (by kernel_rfl) (by kernel_rfl) (by kernel_rfl) ?q119 (Or.inl ⟨?w119, ?y119⟩) (by assumption) ?r119
            case' i119 => simp only [List.getElem?_toArray, List.getElem?_cons_succ, List.getElem?_cons_zero]
            case i119 => rfl
            case q119 => exact fun _ _ _ h => h
            case w119 => rfl
            case y119 => (intro w hSw; go_simp) <;> with_reducible rfl
            try simp only [Act.put, List.setIfInBounds_toArray, List.set_cons_zero, List.set_cons_succ]
            refine wpAnyH_take (i := 8) (oi := ?o120) (v := ?v120) ?i120 (by kernel_rfl) (by kernel_rfl) (by kernel_rfl) ?q120 (Or.inl ⟨?w120, ?y120⟩) (by assumption) ?r120
            case' i120 => simp only [List.getElem?_toArray, List.getElem?_cons_succ, List.getElem?_cons_zero]
            case i120 => rfl
            case q120 => exact fun _ _ _ h => h
            case w120 => rfl
            case y120 => (intro w hSw; go_simp) <;> with_reducible rfl
            try simp only [Act.put, List.setIfInBounds_toArray, List.set_cons_zero, List.set_cons_succ]
            refine wpAnyH_take (i := 9) (oi := ?o121) (v := ?v121) ?i121 (by kernel_rfl) (by kernel_rfl) (by kernel_rfl) ?q121 (Or.inl ⟨?w121, ?y121⟩) (by assumption) ?r121
            case' i121 => simp only [List.getElem?_toArray, List.getElem?_cons_succ, List.getElem?_cons_zero]
            case i121 => rfl
            case q121 => exact fun _ _ _ h => h
            case w121 => rfl
            case y121 => (intro w hSw; go_simp) <;> with_reducible rfl
            try simp only [Act.put, List.setIfInBounds_toArray, List.set_cons_zero, List.set_cons_succ]
            refine wpAnyH_take (i := 10) (oi := ?o122) (v := ?v122) ?i122 (by kernel_rfl) (by kernel_rfl) (by kernel_rfl) ?q122 (Or.inl ⟨?w122, ?y122⟩) (by assumption) ?r122
            case' i122 => simp only [List.getElem?_toArray, List.getElem?_cons_succ, List.getElem?_cons_zero]
            case i122 => rfl
            case q122 => exact fun _ _ _ h => h
            case w122 => rfl
            case y122 => (intro w hSw; go_simp) <;> with_reducible rfl
            try simp only [Act.put, List.setIfInBounds_toArray, List.set_cons_zero, List.set_cons_succ]
            refine wpAnyH_take (i := 11) (oi := ?o123) (v := ?v123) ?i123 (by kernel_rfl) (by kernel_rfl) (by kernel_rfl) ?q123 (Or.inl ⟨?w123, ?y123⟩) (by assumption) ?r123
            case' i123 => simp only [List.getElem?_toArray, List.getElem?_cons_succ, List.getElem?_cons_zero]
            case i123 => rfl
            case q123 => exact fun _ _ _ h => h
            case w123 => rfl
            case y123 => (intro w hSw; obtain ⟨k0, k1, k2, k3, k4⟩ := hSw; go_simp) <;> with_reducible rfl
            try simp only [Act.put, List.setIfInBounds_toArray, List.set_cons_zero, List.set_cons_succ]
            refine wpAnyH_take (i := 12) (oi := ?o124) (v := ?v124) ?i124 (by kernel_rfl) (by kernel_rfl) (by kernel_rfl) ?q124 (Or.inl ⟨?w124, ?y124⟩) (by assumption) ?r124
            case' i124 => simp only [List.getElem?_toArray, List.getElem?_cons_succ, List.getElem?_cons_zero]
            case i124 => rfl
            case q124 => exact fun _ _ _ h => h
            case w124 => rfl
            case y124 => (intro w hSw; go_simp) <;> with_reducible rfl
            try simp only [Act.put, List.setIfInBounds_toArray, List.set_cons_zero, List.set_cons_succ]
            refine wpAnyH_take (i := 13) (oi := ?o125) (v := ?v125) ?i125 (by kernel_rfl) (by kernel_rfl) (by kernel_rfl) ?q125 (Or.inl ⟨?w125, ?y125⟩) (by assumption) ?r125
            case' i125 => simp only [List.getElem?_toArray, List.getElem?_cons_succ, List.getElem?_cons_zero]
            case i125 => rfl
            case q125 => exact fun _ _ _ h => h
            case w125 => rfl
            case y125 => (intro w hSw; go_simp) <;> with_reducible rfl
            try simp only [Act.put, List.setIfInBounds_toArray, List.set_cons_zero, List.set_cons_succ]
            refine wpAnyH_take (i := 14) (oi := ?o126) (v := ?v126) ?i126 (by kernel_rfl) (by kernel_rfl) (by kernel_rfl) ?q126 (Or.inl ⟨?w126, ?y126⟩) (by assumption) ?r126
            case' i126 => simp only [List.getElem?_toArray, List.getElem?_cons_succ, List.getElem?_cons_zero]
            case i126 => rfl
            case q126 => exact fun _ _ _ h => h
            case w126 => rfl
            case y126 => (intro w hSw; go_simp) <;> with_reducible rfl
            try simp only [Act.put, List.setIfInBounds_toArray, List.set_cons_zero, List.set_cons_succ]
            refine wpAnyH_take (i := 15) (oi := ?o127) (v := ?v127) ?i127 (by kernel_rfl) (by kernel_rfl) (by kernel_rfl) ?q127 (Or.inl ⟨?w127, ?y127⟩) (by assumption) ?r127
            case' i127 => simp only [List.getElem?_toArray, List.getElem?_cons_succ, List.getElem?_cons_zero]
            case i127 => rfl
            case q127 => exact fun _ _ _ h => h
            case w127 => rfl
            case y127 => (intro w hSw; obtain ⟨k0, k1, k2, k3, k4⟩ := hSw; go_simp) <;> with_reducible rfl
            try simp only [Act.put, List.setIfInBounds_toArray, List.set_cons_zero, List.set_cons_succ]
            refine wpAnyH_take (i := 16) (oi := ?o128) (v := ?v128) ?i128 (by kernel_rfl) (by kernel_rfl) (by kernel_rfl) ?q128 (Or.inl ⟨?w128, ?y128⟩) (by assumption) ?r128
            case' i128 => simp only [List.getElem?_toArray, List.getElem?_cons_succ, List.getElem?_cons_zero]
            case i128 => rfl
            case q128 => exact fun _ _ _ h => h
            case w128 => rfl
            case y128 => (intro w hSw; go_simp) <;> with_reducible rfl
            try simp only [Act.put, List.setIfInBounds_toArray, List.set_cons_zero, List.set_cons_succ]
            refine wpAnyH_take (i := 17) (oi := ?o129) (v := ?v129) ?i129 (by kernel_rfl) (by kernel_rfl) (by kernel_rfl) ?q129 (Or.inl ⟨?w129, ?y129⟩) (by assumption) ?r129
            case' i129 => simp only [List.getElem?_toArray, List.getElem?_cons_succ, List.getElem?_cons_zero]
            case i129 => rfl
            case q129 => exact fun _ _ _ h => h
            case w129 => rfl
            case y129 => (intro w hSw; go_simp) <;> with_reducible rfl
            try simp only [Act.put, List.setIfInBounds_toArray, List.set_cons_zero, List.set_cons_succ]
            refine wpAnyH_take (i := 18) (oi := ?o130) (v := ?v130) ?i130 (by kernel_rfl) (by kernel_rfl) (by kernel_rfl) ?q130 (Or.inl ⟨?w130, ?y130⟩) (by assumption) ?r130
            case' i130 => simp only [List.getElem?_toArray, List.getElem?_cons_succ, List.getElem?_cons_zero]
            case i130 => rfl
            case q130 => exact fun _ _ _ h => h
            case w130 => rfl
            case y130 => (intro w hSw; go_simp) <;> with_reducible rfl
            try simp only [Act.put, List.setIfInBounds_toArray, List.set_cons_zero, List.set_cons_succ]
            refine wpAnyH_take (i := 19) (oi := ?o131) (v := ?v131) ?i131 (by kernel_rfl) (by kernel_rfl) (by kernel_rfl) ?q131 (Or.inl ⟨?w131, ?y131⟩) (by assumption) ?r131
            case' i131 => simp only [List.getElem?_toArray, List.getElem?_cons_succ, List.getElem?_cons_zero]
            case i131 => rfl
            case q131 => exact fun _ _ _ h => h
            case w131 => rfl
            case y131 => (intro w hSw; go_simp) <;> with_reducible rfl
            try simp only [Act.put, List.setIfInBounds_toArray, List.set_cons_zero, List.set_cons_succ]
            refine wpAnyH_take (i := 20) (oi := ?o132) (v := ?v132) ?i132 (by kernel_rfl) (by kernel_rfl) (by kernel_rfl) ?q132 (Or.inl ⟨?w132, ?y132⟩) (by assumption) ?r132
            case' i132 => simp only [List.getElem?_toArray, List.getElem?_cons_succ, List.getElem?_cons_zero]
            case i132 => rfl
            case q132 => exact fun _ _ _ h => h
            case w132 => rfl
            case y132 => (intro w hSw; go_simp) <;> with_reducible rfl
            try simp only [Act.put, List.setIfInBounds_toArray, List.set_cons_zero, List.set_cons_succ]
            refine wpAnyH_take (i := 21) (oi := ?o133) (v := ?v133) ?i133 (by kernel_rfl) (by kernel_rfl) (by kernel_rfl) ?q133 (Or.inl ⟨?w133, ?y133⟩) (by assumption) ?r133
            case' i133 => simp only [List.getElem?_toArray, List.getElem?_cons_succ, List.getElem?_cons_zero]
            case i133 => rfl
            case q133 => exact fun _ _ _ h => h
            case w133 => rfl
            case y133 => (intro w hSw; go_simp) <;> with_reducible rfl
            try simp only [Act.put, List.setIfInBounds_toArray, List.set_cons_zero, List.set_cons_succ]
            refine wpAnyH_take (i := 22) (oi := ?o134) (v := ?v134) ?i134 (by kernel_rfl) (by kernel_rfl) (by kernel_rfl) ?q134 (Or.inl ⟨?w134, ?y134⟩) (by assumption) ?r134
            case' i134 => simp only [List.getElem?_toArray, List.getElem?_cons_succ, List.getElem?_cons_zero]
            case i134 => rfl
            case q134 => exact fun _ _ _ h => h
            case w134 => rfl
            case y134 => (intro w hSw; go_simp) <;> with_reducible rfl
            try simp only [Act.put, List.setIfInBounds_toArray, List.set_cons_zero, List.set_cons_succ]
            refine wpAnyH_take (i := 23) (oi := ?o135) (v := ?v135) ?i135 (by kernel_rfl) (by kernel_rfl) (by kernel_rfl) ?q135 (Or.inl ⟨?w135, ?y135⟩) (by assumption) ?r135
            case' i135 => simp only [List.getElem?_toArray, List.getElem?_cons_succ, List.getElem?_cons_zero]
            case i135 => rfl
            case q135 => exact fun _ _ _ h => h
            case w135 => rfl
            case y135 => (intro w hSw; obtain ⟨k0, k1, k2, k3, k4⟩ := hSw; go_simp) <;> with_reducible rfl
            try simp only [Act.put, List.setIfInBounds_toArray, List.set_cons_zero, List.set_cons_succ]
            refine wpAnyH_take (i := 24) (oi := ?o136) (v := ?v136) ?i136 (by kernel_rfl) (by kernel_rfl) (by kernel_rfl) ?q136 (Or.inl ⟨?w136, ?y136⟩) (by assumption) ?r136
            case' i136 => simp only [List.getElem?_toArray, List.getElem?_cons_succ, List.getElem?_cons_zero]
            case i136 => rfl
            case q136 => exact fun _ _ _ h => h
            case w136 => rfl
            case y136 => (intro w hSw; go_simp) <;> with_reducible rfl
            try simp only [Act.put, List.setIfInBounds_toArray, List.set_cons_zero, List.set_cons_succ]
            refine wpAnyH_take (i := 25) (oi := ?o137) (v := ?v137) ?i137 (by kernel_rfl) (by kernel_rfl) (by kernel_rfl) ?q137 (Or.inl ⟨?w137, ?y137⟩) (by assumption) ?r137
            case' i137 => simp only [List.getElem?_toArray, List.getElem?_cons_succ, List.getElem?_cons_zero]
            case i137 => rfl
            case q137 => exact fun _ _ _ h => h
            case w137 => rfl
            case y137 => (intro w hSw; go_simp) <;> with_reducible rfl
            try simp only [Act.put, List.setIfInBounds_toArray, List.set_cons_zero, List.set_cons_succ]
            refine wpAnyH_take (i := 26) (oi := ?o138) (v := ?v138) ?i138 (by kernel_rfl) (by kernel_rfl) (by kernel_rfl) ?q138 (Or.inl ⟨?w138, ?y138⟩) (by assumption) ?r138
            case' i138 => simp only [List.getElem?_toArray, List.getElem?_cons_succ, List.getElem?_cons_zero]
            case i138 => rfl
            case q138 => exact fun _ _ _ h => h
            case w138 => rfl
            case y138 => (intro w hSw; go_simp) <;> with_reducible rfl
            try simp only [Act.put, List.setIfInBounds_toArray, List.set_cons_zero, List.set_cons_succ]
            refine wpAnyH_take (i := 27) (oi := ?o139) (v := ?v139) ?i139 (by kernel_rfl) (by kernel_rfl) (by kernel_rfl) ?q139 (Or.inl ⟨?w139, ?y139⟩) (by assumption) ?r139
            case' i139 => simp only [List.getElem?_toArray, List.getElem?_cons_succ, List.getElem?_cons_zero]
            case i139 => rfl
            case q139 => exact fun _ _ _ h => h
            case w139 => rfl
            case y139 => (intro w hSw; go_simp) <;> with_reducible rfl
            try simp only [Act.put, List.setIfInBounds_toArray, List.set_cons_zero, List.set_cons_succ]
            refine wpAnyH_take (i := 28) (oi := ?o140) (v := ?v140) ?i140 (by kernel_rfl) (by kernel_rfl) (by kernel_rfl) ?q140 (Or.inl ⟨?w140, ?y140⟩) (by assumption) ?r140
            case' i140 => simp only [List.getElem?_toArray, List.getElem?_cons_succ, List.getElem?_cons_zero]
            case i140 => rfl
            case q140 => exact fun _ _ _ h => h
            case w140 => rfl
            case y140 => (intro w hSw; go_simp) <;> with_reducible rfl
            try simp only [Act.put, List.setIfInBounds_toArray, List.set_cons_zero, List.set_cons_succ]
            refine wpAnyH_take (i := 29) (oi := ?o141) (v := undef) ?i141 (by kernel_rfl) (by kernel_rfl) (by kernel_rfl) ?q141 (Or.inr ⟨?w141, rfl⟩) (by assumption) ?r141
            case' i141 => simp only [List.getElem?_toArray, List.getElem?_cons_succ, List.getElem?_cons_zero]
            case i141 => rfl
            case q141 => exact fun _ _ _ h => h
            case w141 => rfl
            try simp only [Act.put, List.setIfInBounds_toArray, List.set_cons_zero, List.set_cons_succ]
            refine wpAnyH_take (i := 30) (oi := ?o142) (v := undef) ?i142 (by kernel_rfl) (by kernel_rfl) (by kernel_rfl) ?q142 (Or.inr ⟨?w142, rfl⟩) (by assumption) ?r142
            case' i142 => simp only [List.getElem?_toArray, List.getElem?_cons_succ, List.getElem?_cons_zero]
            case i142 => rfl
            case q142 => exact fun _ _ _ h => h
            case w142 => rfl
            try simp only [Act.put, List.setIfInBounds_toArray, List.set_cons_zero, List.set_cons_succ]
            refine wpAnyH_take (i := 31) (oi := ?o143) (v := undef) ?i143 (by kernel_rfl) (by kernel_rfl) (by kernel_rfl) ?q143 (Or.inr ⟨?w143, rfl⟩) (by assumption) ?r143
            case' i143 => simp only [List.getElem?_toArray, List.getElem?_cons_succ, List.getElem?_cons_zero]
            case i143 => rfl
            case q143 => exact fun _ _ _ h => h
            case w143 => rfl
            try simp only [Act.put, List.setIfInBounds_toArray, List.set_cons_zero, List.set_cons_succ]
            refine wpAnyH_take (i := 32) (oi := ?o144) (v := undef) ?i144 (by kernel_rfl) (by kernel_rfl) (by kernel_rfl) ?q144 (Or.inr ⟨?w144, rfl⟩) (by assumption) ?r144
            case' i144 => simp only [List.getElem?_toArray, List.getElem?_cons_succ, List.getElem?_cons_zero]
            case i144 => rfl
            case q144 => exact fun _ _ _ h => h
            case w144 => rfl
            try simp only [Act.put, List.setIfInBounds_toArray, List.set_cons_zero, List.set_cons_succ]
            refine wpAnyH_take (i := 33) (oi := ?o145) (v := undef) ?i145 (by kernel_rfl) (by kernel_rfl) (by kernel_rfl) ?q145 (Or.inr ⟨?w145, rfl⟩) (by assumption) ?r145
            case' i145 => simp only [List.getElem?_toArray, List.getElem?_cons_succ, List.getElem?_cons_zero]
            case i145 => rfl
            case q145 => exact fun _ _ _ h => h
            case w145 => rfl
            try simp only [Act.put, List.setIfInBounds_toArray, List.set_cons_zero, List.set_cons_succ]
            refine wpAnyH_take (i := 34) (oi := ?o146) (v := undef) ?i146 (by kernel_rfl) (by kernel_rfl) (by kernel_rfl) ?q146 (Or.inr ⟨?w146, rfl⟩) (by assumption) ?r146
            case' i146 => simp only [List.getElem?_toArray, List.getElem?_cons_succ, List.getElem?_cons_zero]
            case i146 => rfl
            case q146 => exact fun _ _ _ h => h
            case w146 => rfl
            try simp only [Act.put, List.setIfInBounds_toArray, List.set_cons_zero, List.set_cons_succ]
            refine wpAnyH_take (i := 35) (oi := ?o147) (v := undef) ?i147 (by kernel_rfl) (by kernel_rfl) (by kernel_rfl) ?q147 (Or.inr ⟨?w147, rfl⟩) (by assumption) ?r147
            case' i147 => simp only [List.getElem?_toArray, List.getElem?_cons_succ, List.getElem?_cons_zero]
            case i147 => rfl
            case q147 => exact fun _ _ _ h => h
            case w147 => rfl
            try simp only [Act.put, List.setIfInBounds_toArray, List.set_cons_zero, List.set_cons_succ]
            refine wpAnyH_take (i := 36) (oi := ?o148) (v := ?v148) ?i148 (by kernel_rfl) (by kernel_rfl) (by kernel_rfl) ?q148 (Or.inl ⟨?w148, ?y148⟩) (by assumption) ?r148
            case' i148 => simp only [List.getElem?_toArray, List.getElem?_cons_succ, List.getElem?_cons_zero]
            case i148 => rfl
            case q148 => exact fun _ _ _ h => h
            case w148 => rfl
            case y148 => (intro w hSw; go_simp) <;> with_reducible rfl
            try simp only [Act.put, List.setIfInBounds_toArray, List.set_cons_zero, List.set_cons_succ]
            refine wpAnyH_done (by kernel_rfl) ?_ _
            clear hHeld
            go_wp2
            go_ret2
            exact ⟨jret HJ.out HJ2.out, HBB.out⟩
        · have q1 : (id != id0) = true := by simp [hb1]
          have HJ2 : Hid (joinF fs = (⟨#[]⟩, 3)) := Lib.hid (join_bad (k := k) HKN.out (by
            cases hq : okAt (fs.getD 0 zeroF).id fs.length k (fs.getD k zeroF) with
            | false => rfl
            | true =>
              rw [HID.out, HZ.out] at hq
              obtain ⟨q1, q2, q3, q4⟩ := okAt_iff.1 hq
              dsimp only at q2 q3 q4
              have := HN.out
              first | (rw [HRT.out] at q1; exact absurd q1 (by decide)) | (exact absurd q2 hb1) | (exact absurd (by rw [q3, ← HN.out]) hb1) | (exact absurd q4 hb1)))
          clear hb1
          go_wp2_with fail
          refine wp_region_held_drew (S := fun u => u.cell? ⟨bk, off + k * 4, none⟩ = some (.int .u64 id) ∧ u.cell? ⟨bk, off + k * 4 + 1, none⟩ = some (.int .i64 ix) ∧ u.cell? ⟨bk, off + k * 4 + 2, none⟩ = some (.int .i64 ct) ∧ u.cell? ⟨bk, off + k * 4 + 3, none⟩ = some (.string s) ∧ u.cell? ⟨bk, off, none⟩ = some (.int .u64 id0)) (by kernel_rfl) ⟨c0, c1, c2, c3, z0⟩ (fun hHeld => ?_)
          have HBB := Lib.hid (below_drewn HB.out)
          clear HB c0 c1 c2 c3 z0
          refine wpAnyH_take (i := 0) (oi := ?o149) (v := ?v149) ?i149 (by kernel_rfl) (by kernel_rfl) (by kernel_rfl) ?q149 (Or.inl ⟨?w149, ?y149⟩) (by assumption) ?r149
          case' i149 => simp only [List.getElem?_toArray, List.getElem?_cons_succ, List.getElem?_cons_zero]
          case i149 => rfl
          case q149 => exact fun _ _ _ h => h
          case w149 => rfl
          case y149 => (intro w hSw; go_simp) <;> with_reducible rfl
          try simp only [Act.put, List.setIfInBounds_toArray, List.set_cons_zero, List.set_cons_succ]
          refine wpAnyH_take (i := 1) (oi := ?o150) (v := ?v150) ?i150 (by kernel_rfl) (by kernel_rfl) (by kernel_rfl) ?q150 (Or.inl ⟨?w150, ?y150⟩) (by assumption) ?r150
          case' i150 => simp only [List.getElem?_toArray, List.getElem?_cons_succ, List.getElem?_cons_zero]
          case i150 => rfl
          case q150 => exact fun _ _ _ h => h
          case w150 => rfl
          case y150 => (intro w hSw; go_simp) <;> with_reducible rfl
          try simp only [Act.put, List.setIfInBounds_toArray, List.set_cons_zero, List.set_cons_succ]
          refine wpAnyH_take (i := 2) (oi := ?o151) (v := ?v151) ?i151 (by kernel_rfl) (by kernel_rfl) (by kernel_rfl) ?q151 (Or.inl ⟨?w151, ?y151⟩) (by assumption) ?r151
          case' i151 => simp only [List.getElem?_toArray, List.getElem?_cons_succ, List.getElem?_cons_zero]
          case i151 => rfl
          case q151 => exact fun _ _ _ h => h
          case w151 => rfl
          case y151 => (intro w hSw; go_simp) <;> with_reducible rfl
          try simp only [Act.put, List.setIfInBounds_toArray, List.set_cons_zero, List.set_cons_succ]
          refine wpAnyH_take (i := 3) (oi := ?o152) (v := ?v152) ?i152 (by kernel_rfl) (by kernel_rfl) (by kernel_rfl) ?q152 (Or.inl ⟨?w152, ?y152⟩) (by assumption) ?r152
          case' i152 => simp only [List.getElem?_toArray, List.getElem?_cons_succ, List.getElem?_cons_zero]
          case i152 => rfl
          case q152 => exact fun _ _ _ h => h
          case w152 => rfl
          case y152 => (intro w hSw; obtain ⟨k0, k1, k2, k3, k4⟩ := hSw; go_simp) <;> with_reducible rfl
          try simp only [Act.put, List.setIfInBounds_toArray, List.set_cons_zero, List.set_cons_succ]
          refine wpAnyH_ready (rs := [4]) (by kernel_rfl) (by simp) ?_
          refine AllReadyH.cons (o := ?o153) ?i153 (fun K' hK => ?_) AllReadyH.nil
          case' i153 => simp only [List.getElem?_toArray, List.getElem?_cons_succ, List.getElem?_cons_zero]
          case i153 => rfl
          go_simp
          go_at_call 21
          refine (rright_f id ix ct s _ HSZ.out true HRT).mono ?_
          rintro e w' ⟨rfl, hb⟩
          have HBB' := Lib.hid (HBB.out.trans (hb.mono HBB.out.size))
          have hHeld' : w'.cell? ⟨bk, off + k * 4, none⟩ = some (.int .u64 id) ∧ w'.cell? ⟨bk, off + k * 4 + 1, none⟩ = some (.int .i64 ix) ∧ w'.cell? ⟨bk, off + k * 4 + 2, none⟩ = some (.int .i64 ct) ∧ w'.cell? ⟨bk, off + k * 4 + 3, none⟩ = some (.string s) ∧ w'.cell? ⟨bk, off, none⟩ = some (.int .u64 id0) := ⟨(hb.cell (block_lt_of_cell hHeld.1)).trans hHeld.1, (hb.cell (block_lt_of_cell hHeld.2.1)).trans hHeld.2.1, (hb.cell (block_lt_of_cell hHeld.2.2.1)).trans hHeld.2.2.1, (hb.cell (block_lt_of_cell hHeld.2.2.2.1)).trans hHeld.2.2.2.1, (hb.cell (block_lt_of_cell hHeld.2.2.2.2)).trans hHeld.2.2.2.2⟩
          clear HBB hb
          have HBB := HBB'
          clear HBB'
          go_wp2_with fail
          refine hK.out _ _ hHeld' (fun _ => ?_)
          clear hK K' hHeld
          have hHeld := hHeld'
          clear hHeld'
          try simp only [Act.put, List.setIfInBounds_toArray, List.set_cons_zero, List.set_cons_succ]
          refine wpAnyH_take (i := 5) (oi := ?o154) (v := ?v154) ?i154 (by kernel_rfl) (by kernel_rfl) (by kernel_rfl) ?q154 (Or.inl ⟨?w154, ?y154⟩) (by assumption) ?r154
          case' i154 => simp only [List.getElem?_toArray, List.getElem?_cons_succ, List.getElem?_cons_zero]
          case i154 => rfl
          case q154 => exact fun _ _ _ h => h
          case w154 => rfl
          case y154 => (intro w hSw; go_simp) <;> with_reducible rfl
          try simp only [Act.put, List.setIfInBounds_toArray, List.set_cons_zero, List.set_cons_succ]
          refine wpAnyH_take (i := 6) (oi := ?o155) (v := ?v155) ?i155 (by kernel_rfl) (by kernel_rfl) (by kernel_rfl) ?q155 (Or.inl ⟨?w155, ?y155⟩) (by assumption) ?r155
          case' i155 => simp only [List.getElem?_toArray, List.getElem?_cons_succ, List.getElem?_cons_zero]
          case i155 => rfl
          case q155 => exact fun _ _ _ h => h
          case w155 => rfl
          case y155 => (intro w hSw; go_simp) <;> with_reducible rfl
          try simp only [Act.put, List.setIfInBounds_toArray, List.set_cons_zero, List.set_cons_succ]
          refine wpAnyH_take (i := 7) (oi := ?o156) (v := ?v156) ?i156 (by kernel_rfl) (by kernel_rfl) (by kernel_rfl) ?q156 (Or.inl ⟨?w156, ?y156⟩) (by assumption) ?r156
          case' i156 => simp only [List.getElem?_toArray, List.getElem?_cons_succ, List.getElem?_cons_zero]
          case i156 => rfl
          case q156 => exact fun _ _ _ h => h
          case w156 => rfl
          case y156 => (intro w hSw; go_simp) <;> with_reducible rfl
          try simp only [Act.put, List.setIfInBounds_toArray, List.set_cons_zero, List.set_cons_succ]
          refine wpAnyH_take (i := 8) (oi := ?o157) (v := ?v157) ?i157 (by kernel_rfl) (by kernel_rfl) (by kernel_rfl) ?q157 (Or.inl ⟨?w157, ?y157⟩) (by assumption) ?r157
          case' i157 => simp only [List.getElem?_toArray, List.getElem?_cons_succ, List.getElem?_cons_zero]
          case i157 => rfl
          case q157 => exact fun _ _ _ h => h
          case w157 => rfl
          case y157 => (intro w hSw; go_simp) <;> with_reducible rfl
          try simp only [Act.put, List.setIfInBounds_toArray, List.set_cons_zero, List.set_cons_succ]
          refine wpAnyH_take (i := 9) (oi := ?o158) (v := ?v158) ?i158 (by kernel_rfl) (by kernel_rfl) (by kernel_rfl) ?q158 (Or.inl ⟨?w158, ?y158⟩) (by assumption) ?r158
          case' i158 => simp only [List.getElem?_toArray, List.getElem?_cons_succ, List.getElem?_cons_zero]
          case i158 => rfl
          case q158 => exact fun _ _ _ h => h
          case w158 => rfl
          case y158 => (intro w hSw; go_simp) <;> with_reducible rfl
          try simp only [Act.put, List.setIfInBounds_toArray, List.set_cons_zero, List.set_cons_succ]
          refine wpAnyH_take (i := 10) (oi := ?o159) (v := ?v159) ?i159 (by kernel_rfl) (by kernel_rfl) (by kernel_rfl) ?q159 (Or.inl ⟨?w159, ?y159⟩) (by assumption) ?r159
          case' i159 => simp only [List.getElem?_toArray, List.getElem?_cons_succ, List.getElem?_cons_zero]
          case i159 => rfl
          case q159 => exact fun _ _ _ h => h
          case w159 => rfl
          case y159 => (intro w hSw; go_simp) <;> with_reducible rfl
          try simp only [Act.put, List.setIfInBounds_toArray, List.set_cons_zero, List.set_cons_succ]
          refine wpAnyH_take (i := 11) (oi := ?o160) (v := ?v160) ?i160 (by kernel_rfl) (by kernel_rfl) (by kernel_rfl) ?q160 (Or.inl ⟨?w160, ?y160⟩) (by assumption) ?r160
          case' i160 => simp only [List.getElem?_toArray, List.getElem?_cons_succ, List.getElem?_cons_zero]
          case i160 => rfl
          case q160 => exact fun _ _ _ h => h
          case w160 => rfl
          case y160 => (intro w hSw; obtain ⟨k0, k1, k2, k3, k4⟩ := hSw; go_simp) <;> with_reducible rfl
          try simp only [Act.put, List.setIfInBounds_toArray, List.set_cons_zero, List.set_cons_succ]
          refine wpAnyH_take (i := 12) (oi := ?o161) (v := ?v161) ?i161 (by kernel_rfl) (by kernel_rfl) (by kernel_rfl) ?q161 (Or.inl ⟨?w161, ?y161⟩) (by assumption) ?r161
          case' i161 => simp only [List.getElem?_toArray, List.getElem?_cons_succ, List.getElem?_cons_zero]
          case i161 => rfl
          case q161 => exact fun _ _ _ h => h
          case w161 => rfl
          case y161 => (intro w hSw; go_simp) <;> with_reducible rfl
          try simp only [Act.put, List.setIfInBounds_toArray, List.set_cons_zero, List.set_cons_succ]
          refine wpAnyH_take (i := 13) (oi := ?o162) (v := ?v162) ?i162 (by kernel_rfl) (by kernel_rfl) (by kernel_rfl) ?q162 (Or.inl ⟨?w162, ?y162⟩) (by assumption) ?r162
          case' i162 => simp only [List.getElem?_toArray, List.getElem?_cons_succ, List.getElem?_cons_zero]
          case i162 => rfl
          case q162 => exact fun _ _ _ h => h
          case w162 => rfl
          case y162 => (intro w hSw; go_simp) <;> with_reducible rfl
          try simp only [Act.put, List.setIfInBounds_toArray, List.set_cons_zero, List.set_cons_succ]
          refine wpAnyH_take (i := 14) (oi := ?o163) (v := ?v163) ?i163 (by kernel_rfl) (by kernel_rfl) (by kernel_rfl) ?q163 (Or.inl ⟨?w163, ?y163⟩) (by assumption) ?r163
          case' i163 => simp only [List.getElem?_toArray, List.getElem?_cons_succ, List.getElem?_cons_zero]
          case i163 => rfl
          case q163 => exact fun _ _ _ h => h
          case w163 => rfl
          case y163 => (intro w hSw; go_simp) <;> with_reducible rfl
          try simp only [Act.put, List.setIfInBounds_toArray, List.set_cons_zero, List.set_cons_succ]
          refine wpAnyH_take (i := 15) (oi := ?o164) (v := ?v164) ?i164 (by kernel_rfl) (by kernel_rfl) (by kernel_rfl) ?q164 (Or.inl ⟨?w164, ?y164⟩) (by assumption) ?r164
          case' i164 => simp only [List.getElem?_toArray, List.getElem?_cons_succ, List.getElem?_cons_zero]
          case i164 => rfl
          case q164 => exact fun _ _ _ h => h
          case w164 => rfl
          case y164 => (intro w hSw; obtain ⟨k0, k1, k2, k3, k4⟩ := hSw; go_simp) <;> with_reducible rfl
          try simp only [Act.put, List.setIfInBounds_toArray, List.set_cons_zero, List.set_cons_succ]
          refine wpAnyH_take (i := 16) (oi := ?o165) (v := ?v165) ?i165 (by kernel_rfl) (by kernel_rfl) (by kernel_rfl) ?q165 (Or.inl ⟨?w165, ?y165⟩) (by assumption) ?r165
          case' i165 => simp only [List.getElem?_toArray, List.getElem?_cons_succ, List.getElem?_cons_zero]
          case i165 => rfl
          case q165 => exact fun _ _ _ h => h
          case w165 => rfl
          case y165 => (intro w hSw; go_simp) <;> with_reducible rfl
          try simp only [Act.put, List.setIfInBounds_toArray, List.set_cons_zero, List.set_cons_succ]
          refine wpAnyH_take (i := 17) (oi := ?o166) (v := ?v166) ?i166 (by kernel_rfl) (by kernel_rfl) (by kernel_rfl) ?q166 (Or.inl ⟨?w166, ?y166⟩) (by assumption) ?r166
          case' i166 => simp only [List.getElem?_toArray, List.getElem?_cons_succ, List.getElem?_cons_zero]
          case i166 => rfl
          case q166 => exact fun _ _ _ h => h
          case w166 => rfl
          case y166 => (intro w hSw; go_simp) <;> with_reducible rfl
          try simp only [Act.put, List.setIfInBounds_toArray, List.set_cons_zero, List.set_cons_succ]
          refine wpAnyH_take (i := 18) (oi := ?o167) (v := ?v167) ?i167 (by kernel_rfl) (by kernel_rfl) (by kernel_rfl) ?q167 (Or.inl ⟨?w167, ?y167⟩) (by assumption) ?r167
          case' i167 => simp only [List.getElem?_toArray, List.getElem?_cons_succ, List.getElem?_cons_zero]
          case i167 => rfl
          case q167 => exact fun _ _ _ h => h
          case w167 => rfl
          case y167 => (intro w hSw; go_simp) <;> with_reducible rfl
          try simp only [Act.put, List.setIfInBounds_toArray, List.set_cons_zero, List.set_cons_succ]
          refine wpAnyH_take (i := 19) (oi := ?o168) (v := undef) ?i168 (by kernel_rfl) (by kernel_rfl) (by kernel_rfl) ?q168 (Or.inr ⟨?w168, rfl⟩) (by assumption) ?r168
          case' i168 => simp only [List.getElem?_toArray, List.getElem?_cons_succ, List.getElem?_cons_zero]
          case i168 => rfl
          case q168 => exact fun _ _ _ h => h
          case w168 => rfl
          try simp only [Act.put, List.setIfInBounds_toArray, List.set_cons_zero, List.set_cons_succ]
          refine wpAnyH_take (i := 20) (oi := ?o169) (v := undef) ?i169 (by kernel_rfl) (by kernel_rfl) (by kernel_rfl) ?q169 (Or.inr ⟨?w169, rfl⟩) (by assumption) ?r169
          case' i169 => simp only [List.getElem?_toArray, List.getElem?_cons_succ, List.getElem?_cons_zero]
          case i169 => rfl
          case q169 => exact fun _ _ _ h => h
          case w169 => rfl
          try simp only [Act.put, List.setIfInBounds_toArray, List.set_cons_zero, List.set_cons_succ]
          refine wpAnyH_take (i := 21) (oi := ?o170) (v := undef) ?i170 (by kernel_rfl) (by kernel_rfl) (by kernel_rfl) ?q170 (Or.inr ⟨?w170, rfl⟩) (by assumption) ?r170
          case' i170 => simp only [List.getElem?_toArray, List.getElem?_cons_succ, List.getElem?_cons_zero]
          case i170 => rfl
          case q170 => exact fun _ _ _ h => h
          case w170 => rfl
          try simp only [Act.put, List.setIfInBounds_toArray, List.set_cons_zero, List.set_cons_succ]
          refine wpAnyH_take (i := 22) (oi := ?o171) (v := undef) ?i171 (by kernel_rfl) (by kernel_rfl) (by kernel_rfl) ?q171 (Or.inr ⟨?w171, rfl⟩) (by assumption) ?r171
          case' i171 => simp only [List.getElem?_toArray, List.getElem?_cons_succ, List.getElem?_cons_zero]
          case i171 => rfl
          case q171 => exact fun _ _ _ h => h
          case w171 => rfl
          try simp only [Act.put, List.setIfInBounds_toArray, List.set_cons_zero, List.set_cons_succ]
          refine wpAnyH_take (i := 23) (oi := ?o172) (v := undef) ?i172 (by kernel_rfl) (by kernel_rfl) (by kernel_rfl) ?q172 (Or.inr ⟨?w172, rfl⟩) (by assumption) ?r172
          case' i172 => simp only [List.getElem?_toArray, List.getElem?_cons_succ, List.getElem?_cons_zero]
          case i172 => rfl
          case q172 => exact fun _ _ _ h => h
          case w172 => rfl
          try simp only [Act.put, List.setIfInBounds_toArray, List.set_cons_zero, List.set_cons_succ]
          refine wpAnyH_take (i := 24) (oi := ?o173) (v := undef) ?i173 (by kernel_rfl) (by kernel_rfl) (by kernel_rfl) ?q173 (Or.inr ⟨?w173, rfl⟩) (by assumption) ?r173
          case' i173 => simp only [List.getElem?_toArray, List.getElem?_cons_succ, List.getElem?_cons_zero]
          case i173 => rfl
          case q173 => exact fun _ _ _ h => h
          case w173 => rfl
          try simp only [Act.put, List.setIfInBounds_toArray, List.set_cons_zero, List.set_cons_succ]
          refine wpAnyH_take (i := 25) (oi := ?o174) (v := undef) ?i174 (by kernel_rfl) (by kernel_rfl) (by kernel_rfl) ?q174 (Or.inr ⟨?w174, rfl⟩) (by assumption) ?r174
          case' i174 => simp only [List.getElem?_toArray, List.getElem?_cons_succ, List.getElem?_cons_zero]
          case i174 => rfl
          case q174 => exact fun _ _ _ h => h
          case w174 => rfl
          try simp only [Act.put, List.setIfInBounds_toArray, List.set_cons_zero, List.set_cons_succ]
          refine wpAnyH_take (i := 26) (oi := ?o175) (v := undef) ?i175 (by kernel_rfl) (by kernel_rfl) (by kernel_rfl) ?q175 (Or.inr ⟨?w175, rfl⟩) (by assumption) ?r175
          case' i175 => simp only [List.getElem?_toArray, List.getElem?_cons_succ, List.getElem?_cons_zero]
          case i175 => rfl
          case q175 => exact fun _ _ _ h => h
          case w175 => rfl
          try simp only [Act.put, List.setIfInBounds_toArray, List.set_cons_zero, List.set_cons_succ]
          refine wpAnyH_take (i := 27) (oi := ?o176) (v := ?v176) ?i176 (by kernel_rfl) (by kernel_rfl) (by kernel_rfl) ?q176 (Or.inl ⟨?w176, ?y176⟩) (by assumption) ?r176
          case' i176 => simp only [List.getElem?_toArray, List.getElem?_cons_succ, List.getElem?_cons_zero]
          case i176 => rfl
          case q176 => exact fun _ _ _ h => h
          case w176 => rfl
          case y176 => (intro w hSw; go_simp) <;> with_reducible rfl
          try simp only [Act.put, List.setIfInBounds_toArray, List.set_cons_zero, List.set_cons_succ]
          refine wpAnyH_take (i := 28) (oi := ?o177) (v := ?v177) ?i177 (by kernel_rfl) (by kernel_rfl) (by kernel_rfl) ?q177 (Or.inl ⟨?w177, ?y177⟩) (by assumption) ?r177
          case' i177 => simp only [List.getElem?_toArray, List.getElem?_cons_succ, List.getElem?_cons_zero]
          case i177 => rfl
          case q177 => exact fun _ _ _ h => h
          case w177 => rfl
          case y177 => (intro w hSw; go_simp) <;> with_reducible rfl
          try simp only [Act.put, List.setIfInBounds_toArray, List.set_cons_zero, List.set_cons_succ]
          refine wpAnyH_take (i := 29) (oi := ?o178) (v := undef) ?i178 (by kernel_rfl) (by kernel_rfl) (by kernel_rfl) ?q178 (Or.inr ⟨?w178, rfl⟩) (by assumption) ?r178
          case' i178 => simp only [List.getElem?_toArray, List.getElem?_cons_succ, List.getElem?_cons_zero]
          case i178 => rfl
          case q178 => exact fun _ _ _ h => h
          case w178 => rfl
          try simp only [Act.put, List.setIfInBounds_toArray, List.set_cons_zero, List.set_cons_succ]
          refine wpAnyH_take (i := 30) (oi := ?o179) (v := undef) ?i179 (by kernel_rfl) (by kernel_rfl) (by kernel_rfl) ?q179 (Or.inr ⟨?w179, rfl⟩) (by assumption) ?r179
          case' i179 => simp only [List.getElem?_toArray, List.getElem?_cons_succ, List.getElem?_cons_zero]
          case i179 => rfl
          case q179 => exact fun _ _ _ h => h
          case w179 => rfl
          try simp only [Act.put, List.setIfInBounds_toArray, List.set_cons_zero, List.set_cons_succ]
          refine wpAnyH_take (i := 31) (oi := ?o180) (v := undef) ?i180 (by kernel_rfl) (by kernel_rfl) (by kernel_rfl) ?q180 (Or.inr ⟨?w180, rfl⟩) (by assumption) ?r180
          case' i180 => simp only [List.getElem?_toArray, List.getElem?_cons_succ, List.getElem?_cons_zero]
          case i180 => rfl
          case q180 => exact fun _ _ _ h => h
          case w180 => rfl
          try simp only [Act.put, List.setIfInBounds_toArray, List.set_cons_zero, List.set_cons_succ]
          refine wpAnyH_take (i := 32) (oi := ?o181) (v := undef) ?i181 (by kernel_rfl) (by kernel_rfl) (by kernel_rfl) ?q181 (Or.inr ⟨?w181, rfl⟩) (by assumption) ?r181
          case' i181 => simp only [List.getElem?_toArray, List.getElem?_cons_succ, List.getElem?_cons_zero]
          case i181 => rfl
          case q181 => exact fun _ _ _ h => h
          case w181 => rfl
          try simp only [Act.put, List.setIfInBounds_toArray, List.set_cons_zero, List.set_cons_succ]
          refine wpAnyH_take (i := 33) (oi := ?o182) (v := undef) ?i182 (by kernel_rfl) (by kernel_rfl) (by kernel_rfl) ?q182 (Or.inr ⟨?w182, rfl⟩) (by assumption) ?r182
          case' i182 => simp only [List.getElem?_toArray, List.getElem?_cons_succ, List.getElem?_cons_zero]
          case i182 => rfl
          case q182 => exact fun _ _ _ h => h
          case w182 => rfl
          try simp only [Act.put, List.setIfInBounds_toArray, List.set_cons_zero, List.set_cons_succ]
          refine wpAnyH_take (i := 34) (oi := ?o183) (v := undef) ?i183 (by kernel_rfl) (by kernel_rfl) (by kernel_rfl) ?q183 (Or.inr ⟨?w183, rfl⟩) (by assumption) ?r183
          case' i183 => simp only [List.getElem?_toArray, List.getElem?_cons_succ, List.getElem?_cons_zero]
          case i183 => rfl
          case q183 => exact fun _ _ _ h => h
          case w183 => rfl
          try simp only [Act.put, List.setIfInBounds_toArray, List.set_cons_zero, List.set_cons_succ]
          refine wpAnyH_take (i := 35) (oi := ?o184) (v := undef) ?i184 (by kernel_rfl) (by kernel_rfl) (by kernel_rfl) ?q184 (Or.inr ⟨?w184, rfl⟩) (by assumption) ?r184
          case' i184 => simp only [List.getElem?_toArray, List.getElem?_cons_succ, List.getElem?_cons_zero]
          case i184 => rfl
          case q184 => exact fun _ _ _ h => h
          case w184 => rfl
          try simp only [Act.put, List.setIfInBounds_toArray, List.set_cons_zero, List.set_cons_succ]
          refine wpAnyH_take (i := 36) (oi := ?o185) (v := ?v185) ?i185 (by kernel_rfl) (by kernel_rfl) (by kernel_rfl) ?q185 (Or.inl ⟨?w185, ?y185⟩) (by assumption) ?r185
          case' i185 => simp only [List.getElem?_toArray, List.getElem?_cons_succ, List.getElem?_cons_zero]
          case i185 => rfl
          case q185 => exact fun _ _ _ h => h
          case w185 => rfl
          case y185 => (intro w hSw; go_simp) <;> with_reducible rfl
          try simp only [Act.put, List.setIfInBounds_toArray, List.set_cons_zero, List.set_cons_succ]
          refine wpAnyH_done (by kernel_rfl) ?_ _
          clear hHeld
          go_wp2
          go_ret2
          exact ⟨jret HJ.out HJ2.out, HBB.out⟩
    · have e12 : decide (k < n) = false ∨ (decide (k < n) = true ∧ decide ((k : Int) < 17) = false) := by
        simp only [decide_eq_false_iff_not, decide_eq_true_eq]
        omega
      have HK := Lib.hid hlt
      have HK1 := Lib.hid hk
      have HK2 := Lib.hid hk17
      clear hlt hk hk17
      by_cases hw : n = 0 ∨ 16 < n
      · have HJ2 : Hid (joinF fs = (⟨#[]⟩, 3)) := Lib.hid (join_many (by rw [← HN.out]; exact hw))
        have hw2 : ((n : Int) == 0) = true ∨ (((n : Int) == 0) = false ∧ decide ((16 : Int) < (n : Int)) = true) := by
          simp only [beq_iff_eq, beq_eq_false_iff_ne, decide_eq_true_eq, ne_eq]
          omega
        clear hw
        rcases e12 with e1 | ⟨e1, e2⟩ <;> rcases hw2 with g1 | ⟨g1, g2⟩
        all_goals
          go_wp2
          go_ret2
          exact ⟨jret HJ.out HJ2.out, HB.out⟩
      · have g1 : ((n : Int) == 0) = false := by simp only [beq_eq_false_iff_ne, ne_eq]; omega
        have g2 : decide ((16 : Int) < (n : Int)) = false := by simp; omega
        have hkn : k = n := by have := HK.out; have := HK1.out; omega
        have HKN : Hid (k = n) := Lib.hid hkn
        have e1 : decide (k < n) = false := by simp; omega
        have HJ2 := Lib.hid (join_all (fs := fs) (by rw [← HN.out]; omega) (by rw [← HN.out]; omega) (fun j hj => by rw [HID.out, ← HN.out]; exact HOK.out j (by rw [HKN.out, HN.out]; exact hj)))
        have HGF : Hid (g = catF fs ⟨#[]⟩) := Lib.hid (by rw [HGC.out, List.take_of_length_le (by rw [← HN.out, HKN.out]; exact Nat.le_refl _)])
        clear hw e12 hkn
        by_cases hbig : 4096 < g.size
        · have g3 : decide ((4096 : Int) < (g.size : Int)) = true := by simp; omega
          have HJ3 : Hid (joinF fs = (⟨#[]⟩, 4)) := Lib.hid (by rw [HJ2.out, ← HGF.out, if_pos hbig])
          clear hbig
          go_wp2
          go_ret2
          exact ⟨jret HJ.out HJ3.out, HB.out⟩
        · have g3 : decide ((4096 : Int) < (g.size : Int)) = false := by simp; omega
          have HJ3 : Hid (joinF fs = (g, 0)) := Lib.hid (by rw [HJ2.out, ← HGF.out, if_neg hbig])
          clear hbig
          go_wp2
          go_ret2
          exact ⟨jret HJ.out HJ3.out, HB.out⟩
end Go.Proofs.Ytjimkkakcgdgfaa
