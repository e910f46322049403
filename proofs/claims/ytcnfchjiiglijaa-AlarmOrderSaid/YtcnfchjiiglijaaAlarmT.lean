/- The document's Put. -/
import Derived.Test.YtcnfchjiiglijaaAlarmR
import Derived.Deep.RegionHeld3
namespace Go.Proofs.Ytcnfchjiiglijaa
open Go.RowKit
set_option linter.unusedVariables false
set_option linter.unusedSimpArgs false
set_option maxRecDepth 20000

theorem below_drewA {B : Nat} {w w' : World} (h : Below B w w') : Below B w w'.drew := ⟨h.os, h.tape, h.output, h.size, h.block⟩
set_option maxHeartbeats 4000000 in
set_option maxRecDepth 100000 in
theorem rput_full (q : Nat) (id at_ most : Int) (L : List On) (w : World) (h : Hid (RAl w q L most)) (hL : Hid (L.length ≤ 1000)) (hmost : -9223372036854775808 ≤ most ∧ most ≤ 9223372036854775807) (hf : hasD id L = false) (hfull : max 0 most ≤ (L.length : Int)) :
    Calls Try.prog 11 #[.pointer (some ⟨q, 0, none⟩), .int .u64 id, .int .u64 at_] w fun e w' => e = .returned (.int .i64 8) ∧ Below w.heap.size w w' := by
  obtain ⟨a, cap, h1, h2, h3⟩ := h.out
  have c0 := cell_atA 0 h1
  have c1 := cell_atA 1 h1
  simp at c0 c1
  have hlen := hL.out
  obtain ⟨n, hn⟩ : ∃ n, L.length = n := ⟨_, rfl⟩
  rw [hn] at c0 hlen
  have HN := Lib.hid hn
  clear h1 h2 h3 hn
  obtain ⟨mm, hmm⟩ : ∃ mm, max 0 most = mm := ⟨_, rfl⟩
  have hm1 : (if (0 : Int) < most then most else 0) = mm := by split <;> omega
  have hm2 : (if most < (0 : Int) then 0 else most) = mm := by split <;> omega
  have HP : Hid (placeD id L = -1) := Lib.hid (by unfold placeD; unfold hasD at hf; rw [if_neg (by simpa using hf)])
  have hd : decide (mm ≤ (n : Int)) = true := by rw [← hmm, ← HN.out]; simpa using hfull
  clear hf hfull
  go_enter Try.func11, Try.ntmps11
  go_wp2_with fail
  refine wp_region_held_drew (S := fun u => u.cell? ⟨q, 0, none⟩ = some (.slice a n cap) ∧ u.cell? ⟨q, 1, none⟩ = some (.int .i64 most)) (by kernel_rfl) ⟨c0, c1⟩ (fun hHeld => ?_)
  have HBB : Hid (Below w.heap.size w w.drew) := Lib.hid (below_drewA (Below.refl _ _))
  clear c0 c1
  refine wpAnyH_take (i := 0) (oi := ?o1) (v := ?v1) ?i1 (by kernel_rfl) (by kernel_rfl) (by kernel_rfl) ?q1 (Or.inl ⟨?w1, ?y1⟩) (by assumption) ?r1
  case' i1 => simp only [List.getElem?_toArray, List.getElem?_cons_succ, List.getElem?_cons_zero]
  case i1 => rfl
  case q1 => exact fun _ _ _ h => h
  case w1 => rfl
  case y1 => (intro w hSw; go_simp) <;> with_reducible rfl
  try simp only [Act.put, List.setIfInBounds_toArray, List.set_cons_zero, List.set_cons_succ]
  refine wpAnyH_take (i := 1) (oi := ?o2) (v := ?v2) ?i2 (by kernel_rfl) (by kernel_rfl) (by kernel_rfl) ?q2 (Or.inl ⟨?w2, ?y2⟩) (by assumption) ?r2
  case' i2 => simp only [List.getElem?_toArray, List.getElem?_cons_succ, List.getElem?_cons_zero]
  case i2 => rfl
  case q2 => exact fun _ _ _ h => h
  case w2 => rfl
  case y2 => (intro w hSw; go_simp) <;> with_reducible rfl
  try simp only [Act.put, List.setIfInBounds_toArray, List.set_cons_zero, List.set_cons_succ]
  refine wpAnyH_ready (rs := [2]) (by kernel_rfl) (by simp) ?_
  refine AllReadyH.cons (o := ?o3) ?i3 (fun K' hK => ?_) AllReadyH.nil
  case' i3 => simp only [List.getElem?_toArray, List.getElem?_cons_succ, List.getElem?_cons_zero]
  case i3 => rfl
  go_simp
  go_at_call 25
  refine (rplace_k q id most L _ (Lib.hid (RAl.below h.out HBB.out))).mono ?_
  rintro e w' ⟨rfl, hb⟩
  rw [HP.out]
  have HBB' := Lib.hid (HBB.out.trans (hb.mono HBB.out.size))
  have hHeld' : w'.cell? ⟨q, 0, none⟩ = some (.slice a n cap) ∧ w'.cell? ⟨q, 1, none⟩ = some (.int .i64 most) := ⟨(hb.cell (block_lt_of_cell hHeld.1)).trans hHeld.1, (hb.cell (block_lt_of_cell hHeld.2)).trans hHeld.2⟩
  clear HBB hb
  have HBB := HBB'
  clear HBB'
  go_wp2_with fail
  refine hK.out _ _ hHeld' (fun _ => ?_)
  clear hK K' hHeld
  have hHeld := hHeld'
  clear hHeld'
  try simp only [Act.put, List.setIfInBounds_toArray, List.set_cons_zero, List.set_cons_succ]
  refine wpAnyH_take (i := 3) (oi := ?o4) (v := ?v4) ?i4 (by kernel_rfl) (by kernel_rfl) (by kernel_rfl) ?q4 (Or.inl ⟨?w4, ?y4⟩) (by assumption) ?r4
  case' i4 => simp only [List.getElem?_toArray, List.getElem?_cons_succ, List.getElem?_cons_zero]
  case i4 => rfl
  case q4 => exact fun _ _ _ h => h
  case w4 => rfl
  case y4 => (intro w hSw; go_simp) <;> with_reducible rfl
  try simp only [Act.put, List.setIfInBounds_toArray, List.set_cons_zero, List.set_cons_succ]
  refine wpAnyH_take (i := 4) (oi := ?o5) (v := ?v5) ?i5 (by kernel_rfl) (by kernel_rfl) (by kernel_rfl) ?q5 (Or.inl ⟨?w5, ?y5⟩) (by assumption) ?r5
  case' i5 => simp only [List.getElem?_toArray, List.getElem?_cons_succ, List.getElem?_cons_zero]
  case i5 => rfl
  case q5 => exact fun _ _ _ h => h
  case w5 => rfl
  case y5 => (intro w hSw; go_simp) <;> with_reducible rfl
  try simp only [Act.put, List.setIfInBounds_toArray, List.set_cons_zero, List.set_cons_succ]
  refine wpAnyH_take (i := 5) (oi := ?o6) (v := ?v6) ?i6 (by kernel_rfl) (by kernel_rfl) (by kernel_rfl) ?q6 (Or.inl ⟨?w6, ?y6⟩) (by assumption) ?r6
  case' i6 => simp only [List.getElem?_toArray, List.getElem?_cons_succ, List.getElem?_cons_zero]
  case i6 => rfl
  case q6 => exact fun _ _ _ h => h
  case w6 => rfl
  case y6 => (intro w hSw; go_simp) <;> with_reducible rfl
  try simp only [Act.put, List.setIfInBounds_toArray, List.set_cons_zero, List.set_cons_succ]
  refine wpAnyH_take (i := 6) (oi := ?o7) (v := ?v7) ?i7 (by kernel_rfl) (by kernel_rfl) (by kernel_rfl) ?q7 (Or.inl ⟨?w7, ?y7⟩) (by assumption) ?r7
  case' i7 => simp only [List.getElem?_toArray, List.getElem?_cons_succ, List.getElem?_cons_zero]
  case i7 => rfl
  case q7 => exact fun _ _ _ h => h
  case w7 => rfl
  case y7 => (intro w hSw; go_simp) <;> with_reducible rfl
  try simp only [Act.put, List.setIfInBounds_toArray, List.set_cons_zero, List.set_cons_succ]
  refine wpAnyH_take (i := 7) (oi := ?o8) (v := ?v8) ?i8 (by kernel_rfl) (by kernel_rfl) (by kernel_rfl) ?q8 (Or.inl ⟨?w8, ?y8⟩) (by assumption) ?r8
  case' i8 => simp only [List.getElem?_toArray, List.getElem?_cons_succ, List.getElem?_cons_zero]
  case i8 => rfl
  case q8 => exact fun _ _ _ h => h
  case w8 => rfl
  case y8 => (intro w hSw; go_simp) <;> with_reducible rfl
  try simp only [Act.put, List.setIfInBounds_toArray, List.set_cons_zero, List.set_cons_succ]
  refine wpAnyH_take (i := 8) (oi := ?o9) (v := ?v9) ?i9 (by kernel_rfl) (by kernel_rfl) (by kernel_rfl) ?q9 (Or.inl ⟨?w9, ?y9⟩) (by assumption) ?r9
  case' i9 => simp only [List.getElem?_toArray, List.getElem?_cons_succ, List.getElem?_cons_zero]
  case i9 => rfl
  case q9 => exact fun _ _ _ h => h
  case w9 => rfl
  case y9 => (intro w hSw; obtain ⟨k0, k1⟩ := hSw; go_simp) <;> with_reducible rfl
  try simp only [Act.put, List.setIfInBounds_toArray, List.set_cons_zero, List.set_cons_succ]
  refine wpAnyH_take (i := 9) (oi := ?o10) (v := ?v10) ?i10 (by kernel_rfl) (by kernel_rfl) (by kernel_rfl) ?q10 (Or.inl ⟨?w10, ?y10⟩) (by assumption) ?r10
  case' i10 => simp only [List.getElem?_toArray, List.getElem?_cons_succ, List.getElem?_cons_zero]
  case i10 => rfl
  case q10 => exact fun _ _ _ h => h
  case w10 => rfl
  case y10 => (intro w hSw; go_simp) <;> with_reducible rfl
  try simp only [Act.put, List.setIfInBounds_toArray, List.set_cons_zero, List.set_cons_succ]
  refine wpAnyH_take (i := 10) (oi := ?o11) (v := ?v11) ?i11 (by kernel_rfl) (by kernel_rfl) (by kernel_rfl) ?q11 (Or.inl ⟨?w11, ?y11⟩) (by assumption) ?r11
  case' i11 => simp only [List.getElem?_toArray, List.getElem?_cons_succ, List.getElem?_cons_zero]
  case i11 => rfl
  case q11 => exact fun _ _ _ h => h
  case w11 => rfl
  case y11 => (intro w hSw; go_simp) <;> with_reducible rfl
  try simp only [Act.put, List.setIfInBounds_toArray, List.set_cons_zero, List.set_cons_succ]
  refine wpAnyH_take (i := 11) (oi := ?o12) (v := ?v12) ?i12 (by kernel_rfl) (by kernel_rfl) (by kernel_rfl) ?q12 (Or.inl ⟨?w12, ?y12⟩) (by assumption) ?r12
  case' i12 => simp only [List.getElem?_toArray, List.getElem?_cons_succ, List.getElem?_cons_zero]
  case i12 => rfl
  case q12 => exact fun _ _ _ h => h
  case w12 => rfl
  case y12 => (intro w hSw; go_simp) <;> with_reducible rfl
  try simp only [Act.put, List.setIfInBounds_toArray, List.set_cons_zero, List.set_cons_succ]
  refine wpAnyH_take (i := 12) (oi := ?o13) (v := ?v13) ?i13 (by kernel_rfl) (by kernel_rfl) (by kernel_rfl) ?q13 (Or.inl ⟨?w13, ?y13⟩) (by assumption) ?r13
  case' i13 => simp only [List.getElem?_toArray, List.getElem?_cons_succ, List.getElem?_cons_zero]
  case i13 => rfl
  case q13 => exact fun _ _ _ h => h
  case w13 => rfl
  case y13 => (intro w hSw; go_simp) <;> with_reducible rfl
  try simp only [Act.put, List.setIfInBounds_toArray, List.set_cons_zero, List.set_cons_succ]
  refine wpAnyH_take (i := 13) (oi := ?o14) (v := ?v14) ?i14 (by kernel_rfl) (by kernel_rfl) (by kernel_rfl) ?q14 (Or.inl ⟨?w14, ?y14⟩) (by assumption) ?r14
  case' i14 => simp only [List.getElem?_toArray, List.getElem?_cons_succ, List.getElem?_cons_zero]
  case i14 => rfl
  case q14 => exact fun _ _ _ h => h
  case w14 => rfl
  case y14 => (intro w hSw; obtain ⟨k0, k1⟩ := hSw; go_simp) <;> with_reducible rfl
  try simp only [Act.put, List.setIfInBounds_toArray, List.set_cons_zero, List.set_cons_succ]
  refine wpAnyH_take (i := 14) (oi := ?o15) (v := ?v15) ?i15 (by kernel_rfl) (by kernel_rfl) (by kernel_rfl) ?q15 (Or.inl ⟨?w15, ?y15⟩) (by assumption) ?r15
  case' i15 => simp only [List.getElem?_toArray, List.getElem?_cons_succ, List.getElem?_cons_zero]
  case i15 => rfl
  case q15 => exact fun _ _ _ h => h
  case w15 => rfl
  case y15 => (intro w hSw; go_simp) <;> with_reducible rfl
  try simp only [Act.put, List.setIfInBounds_toArray, List.set_cons_zero, List.set_cons_succ]
  refine wpAnyH_take (i := 15) (oi := ?o16) (v := ?v16) ?i16 (by kernel_rfl) (by kernel_rfl) (by kernel_rfl) ?q16 (Or.inl ⟨?w16, ?y16⟩) (by assumption) ?r16
  case' i16 => simp only [List.getElem?_toArray, List.getElem?_cons_succ, List.getElem?_cons_zero]
  case i16 => rfl
  case q16 => exact fun _ _ _ h => h
  case w16 => rfl
  case y16 => (intro w hSw; go_simp) <;> with_reducible rfl
  try simp only [Act.put, List.setIfInBounds_toArray, List.set_cons_zero, List.set_cons_succ]
  refine wpAnyH_take (i := 16) (oi := ?o17) (v := ?v17) ?i17 (by kernel_rfl) (by kernel_rfl) (by kernel_rfl) ?q17 (Or.inl ⟨?w17, ?y17⟩) (by assumption) ?r17
  case' i17 => simp only [List.getElem?_toArray, List.getElem?_cons_succ, List.getElem?_cons_zero]
  case i17 => rfl
  case q17 => exact fun _ _ _ h => h
  case w17 => rfl
  case y17 => (intro w hSw; go_simp) <;> with_reducible rfl
  try simp only [Act.put, List.setIfInBounds_toArray, List.set_cons_zero, List.set_cons_succ]
  refine wpAnyH_done (by kernel_rfl) ?_ _
  go_wp2_with fail
  go_ret
  exact ⟨rfl, HBB.out⟩
set_option maxHeartbeats 8000000 in
set_option maxRecDepth 100000 in
theorem rput_room (q : Nat) (id at_ most : Int) (L : List On) (w : World) (h : Hid (RAl w q L most)) (hL : Hid (L.length ≤ 1000)) (hmost : -9223372036854775808 ≤ most ∧ most ≤ 9223372036854775807) (hf : hasD id L = false) (hfull : ¬ max 0 most ≤ (L.length : Int)) :
    Calls Try.prog 11 #[.pointer (some ⟨q, 0, none⟩), .int .u64 id, .int .u64 at_] w fun e w' => e = .returned (.int .i64 0) ∧ RAl w' q (insD ⟨id, at_⟩ (dropD id L)) most ∧ Chg (fun k => k = q) w w' := by
  obtain ⟨a, cap, h1, h2, h3⟩ := h.out
  have c0 := cell_atA 0 h1
  have c1 := cell_atA 1 h1
  simp at c0 c1
  have hlen := hL.out
  obtain ⟨n, hn⟩ : ∃ n, L.length = n := ⟨_, rfl⟩
  rw [hn] at c0 hlen
  have HN := Lib.hid hn
  clear h1 h2 h3 hn
  obtain ⟨mm, hmm⟩ : ∃ mm, max 0 most = mm := ⟨_, rfl⟩
  have hm1 : (if (0 : Int) < most then most else 0) = mm := by split <;> omega
  have hm2 : (if most < (0 : Int) then 0 else most) = mm := by split <;> omega
  have HP : Hid (placeD id L = -1) := Lib.hid (by unfold placeD; unfold hasD at hf; rw [if_neg (by simpa using hf)])
  have hd : decide (mm ≤ (n : Int)) = false := by rw [← hmm, ← HN.out]; simpa using hfull
  clear hf hfull
  go_enter Try.func11, Try.ntmps11
  go_wp2_with fail
  refine wp_region_held_drew (S := fun u => u.cell? ⟨q, 0, none⟩ = some (.slice a n cap) ∧ u.cell? ⟨q, 1, none⟩ = some (.int .i64 most)) (by kernel_rfl) ⟨c0, c1⟩ (fun hHeld => ?_)
  have HBB : Hid (Below w.heap.size w w.drew) := Lib.hid (below_drewA (Below.refl _ _))
  clear c0 c1
  refine wpAnyH_take (i := 0) (oi := ?o18) (v := ?v18) ?i18 (by kernel_rfl) (by kernel_rfl) (by kernel_rfl) ?q18 (Or.inl ⟨?w18, ?y18⟩) (by assumption) ?r18
  case' i18 => simp only [List.getElem?_toArray, List.getElem?_cons_succ, List.getElem?_cons_zero]
  case i18 => rfl
  case q18 => exact fun _ _ _ h => h
  case w18 => rfl
  case y18 => (intro w hSw; go_simp) <;> with_reducible rfl
  try simp only [Act.put, List.setIfInBounds_toArray, List.set_cons_zero, List.set_cons_succ]
  refine wpAnyH_take (i := 1) (oi := ?o19) (v := ?v19) ?i19 (by kernel_rfl) (by kernel_rfl) (by kernel_rfl) ?q19 (Or.inl ⟨?w19, ?y19⟩) (by assumption) ?r19
  case' i19 => simp only [List.getElem?_toArray, List.getElem?_cons_succ, List.getElem?_cons_zero]
  case i19 => rfl
  case q19 => exact fun _ _ _ h => h
  case w19 => rfl
  case y19 => (intro w hSw; go_simp) <;> with_reducible rfl
  try simp only [Act.put, List.setIfInBounds_toArray, List.set_cons_zero, List.set_cons_succ]
  refine wpAnyH_ready (rs := [2]) (by kernel_rfl) (by simp) ?_
  refine AllReadyH.cons (o := ?o20) ?i20 (fun K' hK => ?_) AllReadyH.nil
  case' i20 => simp only [List.getElem?_toArray, List.getElem?_cons_succ, List.getElem?_cons_zero]
  case i20 => rfl
  go_simp
  go_at_call 25
  refine (rplace_k q id most L _ (Lib.hid (RAl.below h.out HBB.out))).mono ?_
  rintro e w' ⟨rfl, hb⟩
  rw [HP.out]
  have HBB' := Lib.hid (HBB.out.trans (hb.mono HBB.out.size))
  have hHeld' : w'.cell? ⟨q, 0, none⟩ = some (.slice a n cap) ∧ w'.cell? ⟨q, 1, none⟩ = some (.int .i64 most) := ⟨(hb.cell (block_lt_of_cell hHeld.1)).trans hHeld.1, (hb.cell (block_lt_of_cell hHeld.2)).trans hHeld.2⟩
  clear HBB hb
  have HBB := HBB'
  clear HBB'
  go_wp2_with fail
  refine hK.out _ _ hHeld' (fun _ => ?_)
  clear hK K' hHeld
  have hHeld := hHeld'
  clear hHeld'
  try simp only [Act.put, List.setIfInBounds_toArray, List.set_cons_zero, List.set_cons_succ]
  refine wpAnyH_take (i := 3) (oi := ?o21) (v := ?v21) ?i21 (by kernel_rfl) (by kernel_rfl) (by kernel_rfl) ?q21 (Or.inl ⟨?w21, ?y21⟩) (by assumption) ?r21
  case' i21 => simp only [List.getElem?_toArray, List.getElem?_cons_succ, List.getElem?_cons_zero]
  case i21 => rfl
  case q21 => exact fun _ _ _ h => h
  case w21 => rfl
  case y21 => (intro w hSw; go_simp) <;> with_reducible rfl
  try simp only [Act.put, List.setIfInBounds_toArray, List.set_cons_zero, List.set_cons_succ]
  refine wpAnyH_take (i := 4) (oi := ?o22) (v := ?v22) ?i22 (by kernel_rfl) (by kernel_rfl) (by kernel_rfl) ?q22 (Or.inl ⟨?w22, ?y22⟩) (by assumption) ?r22
  case' i22 => simp only [List.getElem?_toArray, List.getElem?_cons_succ, List.getElem?_cons_zero]
  case i22 => rfl
  case q22 => exact fun _ _ _ h => h
  case w22 => rfl
  case y22 => (intro w hSw; go_simp) <;> with_reducible rfl
  try simp only [Act.put, List.setIfInBounds_toArray, List.set_cons_zero, List.set_cons_succ]
  refine wpAnyH_take (i := 5) (oi := ?o23) (v := ?v23) ?i23 (by kernel_rfl) (by kernel_rfl) (by kernel_rfl) ?q23 (Or.inl ⟨?w23, ?y23⟩) (by assumption) ?r23
  case' i23 => simp only [List.getElem?_toArray, List.getElem?_cons_succ, List.getElem?_cons_zero]
  case i23 => rfl
  case q23 => exact fun _ _ _ h => h
  case w23 => rfl
  case y23 => (intro w hSw; go_simp) <;> with_reducible rfl
  try simp only [Act.put, List.setIfInBounds_toArray, List.set_cons_zero, List.set_cons_succ]
  refine wpAnyH_take (i := 6) (oi := ?o24) (v := ?v24) ?i24 (by kernel_rfl) (by kernel_rfl) (by kernel_rfl) ?q24 (Or.inl ⟨?w24, ?y24⟩) (by assumption) ?r24
  case' i24 => simp only [List.getElem?_toArray, List.getElem?_cons_succ, List.getElem?_cons_zero]
  case i24 => rfl
  case q24 => exact fun _ _ _ h => h
  case w24 => rfl
  case y24 => (intro w hSw; go_simp) <;> with_reducible rfl
  try simp only [Act.put, List.setIfInBounds_toArray, List.set_cons_zero, List.set_cons_succ]
  refine wpAnyH_take (i := 7) (oi := ?o25) (v := ?v25) ?i25 (by kernel_rfl) (by kernel_rfl) (by kernel_rfl) ?q25 (Or.inl ⟨?w25, ?y25⟩) (by assumption) ?r25
  case' i25 => simp only [List.getElem?_toArray, List.getElem?_cons_succ, List.getElem?_cons_zero]
  case i25 => rfl
  case q25 => exact fun _ _ _ h => h
  case w25 => rfl
  case y25 => (intro w hSw; go_simp) <;> with_reducible rfl
  try simp only [Act.put, List.setIfInBounds_toArray, List.set_cons_zero, List.set_cons_succ]
  refine wpAnyH_take (i := 8) (oi := ?o26) (v := ?v26) ?i26 (by kernel_rfl) (by kernel_rfl) (by kernel_rfl) ?q26 (Or.inl ⟨?w26, ?y26⟩) (by assumption) ?r26
  case' i26 => simp only [List.getElem?_toArray, List.getElem?_cons_succ, List.getElem?_cons_zero]
  case i26 => rfl
  case q26 => exact fun _ _ _ h => h
  case w26 => rfl
  case y26 => (intro w hSw; obtain ⟨k0, k1⟩ := hSw; go_simp) <;> with_reducible rfl
  try simp only [Act.put, List.setIfInBounds_toArray, List.set_cons_zero, List.set_cons_succ]
  refine wpAnyH_take (i := 9) (oi := ?o27) (v := ?v27) ?i27 (by kernel_rfl) (by kernel_rfl) (by kernel_rfl) ?q27 (Or.inl ⟨?w27, ?y27⟩) (by assumption) ?r27
  case' i27 => simp only [List.getElem?_toArray, List.getElem?_cons_succ, List.getElem?_cons_zero]
  case i27 => rfl
  case q27 => exact fun _ _ _ h => h
  case w27 => rfl
  case y27 => (intro w hSw; go_simp) <;> with_reducible rfl
  try simp only [Act.put, List.setIfInBounds_toArray, List.set_cons_zero, List.set_cons_succ]
  refine wpAnyH_take (i := 10) (oi := ?o28) (v := ?v28) ?i28 (by kernel_rfl) (by kernel_rfl) (by kernel_rfl) ?q28 (Or.inl ⟨?w28, ?y28⟩) (by assumption) ?r28
  case' i28 => simp only [List.getElem?_toArray, List.getElem?_cons_succ, List.getElem?_cons_zero]
  case i28 => rfl
  case q28 => exact fun _ _ _ h => h
  case w28 => rfl
  case y28 => (intro w hSw; go_simp) <;> with_reducible rfl
  try simp only [Act.put, List.setIfInBounds_toArray, List.set_cons_zero, List.set_cons_succ]
  refine wpAnyH_take (i := 11) (oi := ?o29) (v := ?v29) ?i29 (by kernel_rfl) (by kernel_rfl) (by kernel_rfl) ?q29 (Or.inl ⟨?w29, ?y29⟩) (by assumption) ?r29
  case' i29 => simp only [List.getElem?_toArray, List.getElem?_cons_succ, List.getElem?_cons_zero]
  case i29 => rfl
  case q29 => exact fun _ _ _ h => h
  case w29 => rfl
  case y29 => (intro w hSw; go_simp) <;> with_reducible rfl
  try simp only [Act.put, List.setIfInBounds_toArray, List.set_cons_zero, List.set_cons_succ]
  refine wpAnyH_take (i := 12) (oi := ?o30) (v := ?v30) ?i30 (by kernel_rfl) (by kernel_rfl) (by kernel_rfl) ?q30 (Or.inl ⟨?w30, ?y30⟩) (by assumption) ?r30
  case' i30 => simp only [List.getElem?_toArray, List.getElem?_cons_succ, List.getElem?_cons_zero]
  case i30 => rfl
  case q30 => exact fun _ _ _ h => h
  case w30 => rfl
  case y30 => (intro w hSw; go_simp) <;> with_reducible rfl
  try simp only [Act.put, List.setIfInBounds_toArray, List.set_cons_zero, List.set_cons_succ]
  refine wpAnyH_take (i := 13) (oi := ?o31) (v := ?v31) ?i31 (by kernel_rfl) (by kernel_rfl) (by kernel_rfl) ?q31 (Or.inl ⟨?w31, ?y31⟩) (by assumption) ?r31
  case' i31 => simp only [List.getElem?_toArray, List.getElem?_cons_succ, List.getElem?_cons_zero]
  case i31 => rfl
  case q31 => exact fun _ _ _ h => h
  case w31 => rfl
  case y31 => (intro w hSw; obtain ⟨k0, k1⟩ := hSw; go_simp) <;> with_reducible rfl
  try simp only [Act.put, List.setIfInBounds_toArray, List.set_cons_zero, List.set_cons_succ]
  refine wpAnyH_take (i := 14) (oi := ?o32) (v := ?v32) ?i32 (by kernel_rfl) (by kernel_rfl) (by kernel_rfl) ?q32 (Or.inl ⟨?w32, ?y32⟩) (by assumption) ?r32
  case' i32 => simp only [List.getElem?_toArray, List.getElem?_cons_succ, List.getElem?_cons_zero]
  case i32 => rfl
  case q32 => exact fun _ _ _ h => h
  case w32 => rfl
  case y32 => (intro w hSw; go_simp) <;> with_reducible rfl
  try simp only [Act.put, List.setIfInBounds_toArray, List.set_cons_zero, List.set_cons_succ]
  refine wpAnyH_take (i := 15) (oi := ?o33) (v := ?v33) ?i33 (by kernel_rfl) (by kernel_rfl) (by kernel_rfl) ?q33 (Or.inl ⟨?w33, ?y33⟩) (by assumption) ?r33
  case' i33 => simp only [List.getElem?_toArray, List.getElem?_cons_succ, List.getElem?_cons_zero]
  case i33 => rfl
  case q33 => exact fun _ _ _ h => h
  case w33 => rfl
  case y33 => (intro w hSw; go_simp) <;> with_reducible rfl
  try simp only [Act.put, List.setIfInBounds_toArray, List.set_cons_zero, List.set_cons_succ]
  refine wpAnyH_take (i := 16) (oi := ?o34) (v := ?v34) ?i34 (by kernel_rfl) (by kernel_rfl) (by kernel_rfl) ?q34 (Or.inl ⟨?w34, ?y34⟩) (by assumption) ?r34
  case' i34 => simp only [List.getElem?_toArray, List.getElem?_cons_succ, List.getElem?_cons_zero]
  case i34 => rfl
  case q34 => exact fun _ _ _ h => h
  case w34 => rfl
  case y34 => (intro w hSw; go_simp) <;> with_reducible rfl
  try simp only [Act.put, List.setIfInBounds_toArray, List.set_cons_zero, List.set_cons_succ]
  refine wpAnyH_done (by kernel_rfl) ?_ _
  go_wp2_with fail
  rename World => wz
  refine (rdrop_k q id most L _ (RAl.below h.out HBB.out) hL.out).mono ?_
  rintro e w2 ⟨rfl, hr2, hch⟩
  obtain ⟨L1, hL1⟩ : ∃ L1, dropD id L = L1 := ⟨_, rfl⟩
  rw [hL1] at hr2
  have HL1 := Lib.hid hL1
  have HL1n : Hid (L1.length ≤ 1000) := Lib.hid (by rw [← hL1]; exact Nat.le_trans (dropD_len id L) hL.out)
  have HR2 := Lib.hid hr2
  have HCH := Lib.hid (show Chg (fun k => k = q) w w2 from (Chg.of_below HBB.out).trans hch)
  obtain ⟨a1, cap1, d0, d1, df, hrow, hq2⟩ := hr2.cell
  have HROW := Lib.hid hrow
  have HQ2 := Lib.hid hq2
  obtain ⟨n1, hn1⟩ : ∃ n1, L1.length = n1 := ⟨_, rfl⟩
  rw [hn1] at d0 HQ2
  have HN1 := Lib.hid hn1
  have hn1k : (n1 : Int) ≤ 1000 := by have := HL1n.out; omega
  have HO0 : Hid (OwnO 70 w2.heap.size (.slice (some ⟨w2.heap.size, 0, none⟩) 0 0) [] (w2.alloc (.cells #[] 70))) := Lib.hid (OwnO.new _ _ (Nat.le_refl _))
  have HBW0 : Hid (Below w2.heap.size w2 (w2.alloc (.cells #[] 70))) := Lib.hid (below_alloc _ _)
  clear hL1 hr2 hch hrow hq2 hn1 HBB d0 d1 df
  go_wp2_with fail
  go_loopw [7, 8, 9] (fun v dv i wr => ∃ (k : Nat) (M : List On) (dn : Bool), k ≤ n1 ∧ i = .int .i64 k ∧ dv = .bool dn ∧ Hid (insGo ⟨id, at_⟩ (L1.take k) = (M, dn)) ∧ Hid (OwnO 70 w2.heap.size v M wr) ∧ Hid (Below w2.heap.size w2 wr)) (fun _ _ i _ => n1 - (intOf i).toNat)
  case atStart => exact ⟨0, [], false, Nat.zero_le _, rfl, rfl, Lib.hid rfl, HO0, HBW0⟩
  case round =>
    clear HO0 HBW0
    obtain ⟨k, M, dn, hk, rfl, rfl, HS0, HO, HB⟩ := hrel
    have hq := (HB.out.block q (blk_lt HQ2.out)).trans HQ2.out
    have c0 := cell_atA 0 hq
    simp at c0
    have HML : Hid (M.length ≤ 1001) := Lib.hid (by
      have := (insGo_len ⟨id, at_⟩ (L1.take k)).1
      rw [HS0.out, List.length_take] at this
      have := HL1n.out
      simp only at *
      omega)
    by_cases hlt : k < n1
    · have hlt' : (k : Int) < (n1 : Int) := by omega
      have e1 : decide (k < n1) = true := by simpa using hlt
      obtain ⟨_, _, b, off, hr⟩ := HROW.out.below HB.out
      obtain ⟨hae, x0, x1⟩ := hr k (by rw [HN1.out]; exact hlt)
      subst hae
      have HGO : Hid (insGo ⟨id, at_⟩ (L1.take (k + 1)) = insStep ⟨id, at_⟩ (insGo ⟨id, at_⟩ (L1.take k)) (gt L1 k)) := Lib.hid (insGo_take (by rw [HN1.out]; exact hlt))
      generalize gt L1 k = o at x0 x1 HGO
      obtain ⟨oid, oat⟩ := o
      dsimp only at x0 x1
      have HK := Lib.hid hlt
      clear hr hlt hq
      have HU : Hid (Below w2.heap.size w2 (wr.alloc (.cells #[.int .u64 oid, .int .u64 oat] 70))) := Lib.hid (HB.out.trans ((below_alloc _ _).mono HB.out.size))
      have HO1 := Lib.hid (HO.out.below (below_alloc wr (.cells #[.int .u64 oid, .int .u64 oat] 70)))
      obtain ⟨a0, k0, hv0, _⟩ := HO.out.at
      subst hv0
      cases hdn : dn with
      | true =>
        have HST : Hid (insGo ⟨id, at_⟩ (L1.take (k + 1)) = (M ++ [⟨oid, oat⟩], true)) := Lib.hid (by rw [HGO.out, HS0.out, hdn]; simp [insStep])
        subst hdn
        go_wp2_with (at_builtin; refine wpList_appO1 rfl (.tmp 74) (.tmp 76) 26 70 Try.underlying26 infoO rfl w2.heap.size _ M (⟨oid, oat⟩ : On) _ rfl (HO1.out.below (below_alloc _ _)) (wr.heap.size + 1) 1 rfl (by have := heap_alloc_new (wr.alloc (.cells #[.int .u64 oid, .int .u64 oat] 70)) (.cells #[.int .u64 oid, .int .u64 oat] 70); rw [World.size_alloc] at this; exact this) (by have := HML.out; simp; omega) (by have := HU.out.size; simp at this ⊢; omega) ?_; intro v1 x1 hA; have HA1 := Lib.hid hA; clear hA; have HX1 : Hid (Below w2.heap.size w2 x1) := Lib.hid (HU.out.trans (((below_alloc (wr.alloc (.cells #[.int .u64 oid, .int .u64 oat] 70)) _).mono HU.out.size).trans HA1.out.low)))
        go_roundw
        case rel => exact ⟨k + 1, M ++ [⟨oid, oat⟩], true, by have := HK.out; omega, by go_num, rfl, HST, Lib.hid HA1.out.own, HX1⟩
        case measure => have := HK.out; simp [intOf]; omega
      | false =>
        subst hdn
        cases hq1 : decide (at_ < oat) with
        | true =>
          have HST : Hid (insGo ⟨id, at_⟩ (L1.take (k + 1)) = (M ++ [⟨id, at_⟩] ++ [⟨oid, oat⟩], true)) := Lib.hid (by rw [HGO.out, HS0.out]; simp [insStep, ltO, hq1])
          go_wp2_with (first | (at_builtin; refine wpList_appO1 rfl (.tmp 68) (.tmp 72) 26 70 Try.underlying26 infoO rfl w2.heap.size _ M (⟨id, at_⟩ : On) _ rfl (HO1.out.below (below_alloc _ _)) (wr.heap.size + 1) 1 rfl (by have := heap_alloc_new (wr.alloc (.cells #[.int .u64 oid, .int .u64 oat] 70)) (.cells #[.int .u64 id, .int .u64 at_] 70); rw [World.size_alloc] at this; exact this) (by have := HML.out; simp; omega) (by have := HU.out.size; simp at this ⊢; omega) ?_; intro v1 x1 hA; have HA1 := Lib.hid hA; clear hA; have HX1 : Hid (Below w2.heap.size w2 x1) := Lib.hid (HU.out.trans (((below_alloc (wr.alloc (.cells #[.int .u64 oid, .int .u64 oat] 70)) _).mono HU.out.size).trans HA1.out.low)); have hbx : x1.heap[wr.heap.size]? = some (.cells #[.int .u64 oid, .int .u64 oat] 70 (0, 0)) := (Chg.grown HA1.out.grown).blk (((below_alloc (wr.alloc (.cells #[.int .u64 oid, .int .u64 oat] 70)) _).block wr.heap.size (by simp)).trans (heap_alloc_new wr _)) (fun e => by have := (World.ownsRow.lt HO.out _ e.symm).2; omega); have g0 := cell_atA 0 hbx; have g1 := cell_atA 1 hbx; simp at g0 g1; clear hbx; have HO2 : ∀ o, OwnO 70 w2.heap.size v1 (M ++ [⟨id, at_⟩]) (x1.alloc o) := (fun o => HA1.out.own.below (below_alloc x1 o))) | (at_builtin; refine wpList_appO1 rfl (.tmp 74) (.tmp 76) 26 70 Try.underlying26 infoO rfl w2.heap.size _ (M ++ [(⟨id, at_⟩ : On)]) (⟨oid, oat⟩ : On) _ rfl (HO2 _) x1.heap.size 1 rfl (heap_alloc_new x1 _) (by have := HML.out; simp; omega) (by have := HX1.out.size; simp; omega) ?_; intro v2 x2 hA; have HA2 := Lib.hid hA; clear hA; have HX2 : Hid (Below w2.heap.size w2 x2) := Lib.hid (HX1.out.trans (((below_alloc x1 _).mono HX1.out.size).trans HA2.out.low)); clear g0 g1))
          go_roundw
          case rel => exact ⟨k + 1, M ++ [⟨id, at_⟩] ++ [⟨oid, oat⟩], true, by have := HK.out; omega, by go_num, rfl, HST, Lib.hid HA2.out.own, HX2⟩
          case measure => have := HK.out; simp [intOf]; omega
        | false =>
          cases hq2 : (at_ == oat) with
          | false =>
            have HST : Hid (insGo ⟨id, at_⟩ (L1.take (k + 1)) = (M ++ [⟨oid, oat⟩], false)) := Lib.hid (by rw [HGO.out, HS0.out]; simp [insStep, ltO, hq1, hq2])
            go_wp2_with (at_builtin; refine wpList_appO1 rfl (.tmp 74) (.tmp 76) 26 70 Try.underlying26 infoO rfl w2.heap.size _ M (⟨oid, oat⟩ : On) _ rfl (HO1.out.below (below_alloc _ _)) (wr.heap.size + 1) 1 rfl (by have := heap_alloc_new (wr.alloc (.cells #[.int .u64 oid, .int .u64 oat] 70)) (.cells #[.int .u64 oid, .int .u64 oat] 70); rw [World.size_alloc] at this; exact this) (by have := HML.out; simp; omega) (by have := HU.out.size; simp at this ⊢; omega) ?_; intro v1 x1 hA; have HA1 := Lib.hid hA; clear hA; have HX1 : Hid (Below w2.heap.size w2 x1) := Lib.hid (HU.out.trans (((below_alloc (wr.alloc (.cells #[.int .u64 oid, .int .u64 oat] 70)) _).mono HU.out.size).trans HA1.out.low)))
            go_roundw
            case rel => exact ⟨k + 1, M ++ [⟨oid, oat⟩], false, by have := HK.out; omega, by go_num, rfl, HST, Lib.hid HA1.out.own, HX1⟩
            case measure => have := HK.out; simp [intOf]; omega
          | true =>
            cases hq3 : decide (id < oid) with
            | true =>
              have HST : Hid (insGo ⟨id, at_⟩ (L1.take (k + 1)) = (M ++ [⟨id, at_⟩] ++ [⟨oid, oat⟩], true)) := Lib.hid (by rw [HGO.out, HS0.out]; simp [insStep, ltO, hq1, hq2, hq3])
              go_wp2_with (first | (at_builtin; refine wpList_appO1 rfl (.tmp 68) (.tmp 72) 26 70 Try.underlying26 infoO rfl w2.heap.size _ M (⟨id, at_⟩ : On) _ rfl (HO1.out.below (below_alloc _ _)) (wr.heap.size + 1) 1 rfl (by have := heap_alloc_new (wr.alloc (.cells #[.int .u64 oid, .int .u64 oat] 70)) (.cells #[.int .u64 id, .int .u64 at_] 70); rw [World.size_alloc] at this; exact this) (by have := HML.out; simp; omega) (by have := HU.out.size; simp at this ⊢; omega) ?_; intro v1 x1 hA; have HA1 := Lib.hid hA; clear hA; have HX1 : Hid (Below w2.heap.size w2 x1) := Lib.hid (HU.out.trans (((below_alloc (wr.alloc (.cells #[.int .u64 oid, .int .u64 oat] 70)) _).mono HU.out.size).trans HA1.out.low)); have hbx : x1.heap[wr.heap.size]? = some (.cells #[.int .u64 oid, .int .u64 oat] 70 (0, 0)) := (Chg.grown HA1.out.grown).blk (((below_alloc (wr.alloc (.cells #[.int .u64 oid, .int .u64 oat] 70)) _).block wr.heap.size (by simp)).trans (heap_alloc_new wr _)) (fun e => by have := (World.ownsRow.lt HO.out _ e.symm).2; omega); have g0 := cell_atA 0 hbx; have g1 := cell_atA 1 hbx; simp at g0 g1; clear hbx; have HO2 : ∀ o, OwnO 70 w2.heap.size v1 (M ++ [⟨id, at_⟩]) (x1.alloc o) := (fun o => HA1.out.own.below (below_alloc x1 o))) | (at_builtin; refine wpList_appO1 rfl (.tmp 74) (.tmp 76) 26 70 Try.underlying26 infoO rfl w2.heap.size _ (M ++ [(⟨id, at_⟩ : On)]) (⟨oid, oat⟩ : On) _ rfl (HO2 _) x1.heap.size 1 rfl (heap_alloc_new x1 _) (by have := HML.out; simp; omega) (by have := HX1.out.size; simp; omega) ?_; intro v2 x2 hA; have HA2 := Lib.hid hA; clear hA; have HX2 : Hid (Below w2.heap.size w2 x2) := Lib.hid (HX1.out.trans (((below_alloc x1 _).mono HX1.out.size).trans HA2.out.low)); clear g0 g1))
              go_roundw
              case rel => exact ⟨k + 1, M ++ [⟨id, at_⟩] ++ [⟨oid, oat⟩], true, by have := HK.out; omega, by go_num, rfl, HST, Lib.hid HA2.out.own, HX2⟩
              case measure => have := HK.out; simp [intOf]; omega
            | false =>
              have HST : Hid (insGo ⟨id, at_⟩ (L1.take (k + 1)) = (M ++ [⟨oid, oat⟩], false)) := Lib.hid (by rw [HGO.out, HS0.out]; simp [insStep, ltO, hq1, hq2, hq3])
              go_wp2_with (at_builtin; refine wpList_appO1 rfl (.tmp 74) (.tmp 76) 26 70 Try.underlying26 infoO rfl w2.heap.size _ M (⟨oid, oat⟩ : On) _ rfl (HO1.out.below (below_alloc _ _)) (wr.heap.size + 1) 1 rfl (by have := heap_alloc_new (wr.alloc (.cells #[.int .u64 oid, .int .u64 oat] 70)) (.cells #[.int .u64 oid, .int .u64 oat] 70); rw [World.size_alloc] at this; exact this) (by have := HML.out; simp; omega) (by have := HU.out.size; simp at this ⊢; omega) ?_; intro v1 x1 hA; have HA1 := Lib.hid hA; clear hA; have HX1 : Hid (Below w2.heap.size w2 x1) := Lib.hid (HU.out.trans (((below_alloc (wr.alloc (.cells #[.int .u64 oid, .int .u64 oat] 70)) _).mono HU.out.size).trans HA1.out.low)))
              go_roundw
              case rel => exact ⟨k + 1, M ++ [⟨oid, oat⟩], false, by have := HK.out; omega, by go_num, rfl, HST, Lib.hid HA1.out.own, HX1⟩
              case measure => have := HK.out; simp [intOf]; omega
    · obtain rfl : k = n1 := by omega
      have e1 : decide (k < k) = false := decide_eq_false (Nat.lt_irrefl _)
      have HTK : Hid (insGo ⟨id, at_⟩ L1 = (M, dn)) := Lib.hid (by have := HS0.out; rw [List.take_of_length_le (by rw [HN1.out]; exact Nat.le_refl _)] at this; exact this)
      have HSZ : Hid (w2.heap.size ≤ wr.heap.size ∧ w.heap.size ≤ w2.heap.size) := Lib.hid ⟨HB.out.size, HCH.out.size⟩
      have HQL : Hid (q < w2.heap.size) := Lib.hid (blk_lt HQ2.out)
      clear hlt hk
      cases hdn : dn with
      | true =>
        subst hdn
        have HE : Hid (insD ⟨id, at_⟩ L1 = M) := Lib.hid (by unfold insD; rw [HTK.out]; rfl)
        have HQR := Lib.hid hq
        have hfz := frz_atA 0 hq
        obtain ⟨a0, k0, hv0, hr0, hb0⟩ := HO.out.at
        subst hv0
        have HRR := Lib.hid (And.intro hr0 hb0)
        clear hr0 hb0 hq
        go_wp2_with fail
        go_ret
        refine ⟨rfl, ?_, ?_⟩
        · rw [HL1.out, HE.out]
          exact RAl.put (base := w2.heap.size) HQR.out HRR.out.1 HRR.out.2 HQL.out
        · exact (HCH.out.trans (Chg.of_below (HB.out.mono (Nat.le_refl _)))).trans (Chg.setCell _ _ _ _)
      | false =>
        subst hdn
        obtain ⟨G, hG⟩ : ∃ G, M ++ [⟨id, at_⟩] = G := ⟨_, rfl⟩
        have HE : Hid (insD ⟨id, at_⟩ L1 = G) := Lib.hid (by unfold insD; rw [HTK.out, ← hG]; rfl)
        have HGE := Lib.hid hG
        clear hG hq
        obtain ⟨a0, k0, hv0, _⟩ := HO.out.at
        subst hv0
        go_wp2_with (at_builtin; refine wpList_appO1 rfl (.tmp 80) (.tmp 84) 26 70 Try.underlying26 infoO rfl w2.heap.size _ M (⟨id, at_⟩ : On) _ rfl (HO.out.below (below_alloc _ _)) wr.heap.size 1 rfl (heap_alloc_new wr _) (by have := HML.out; simp; omega) (by have := HSZ.out; simp; omega) ?_; intro v3 x3 hA; have HA3 := Lib.hid hA; clear hA; have HX3 : Hid (Below w2.heap.size w2 x3) := Lib.hid (HB.out.trans (((below_alloc wr _).mono HB.out.size).trans HA3.out.low)); have hq3 := (HX3.out.block q (blk_lt HQ2.out)).trans HQ2.out; have HQ3 := Lib.hid hq3; have c3 := cell_atA 0 hq3; simp at c3; have f3 := frz_atA 0 hq3; clear hq3; have hown2 : OwnO 70 w2.heap.size v3 G x3 := (by have := HA3.out.own; rw [HGE.out] at this; exact this); obtain ⟨a2, k2, hv2, hr2, hb2⟩ := hown2.at; subst hv2; have HR3 := Lib.hid (And.intro hr2 hb2); clear hr2 hb2 hown2)
        go_ret
        refine ⟨rfl, ?_, ?_⟩
        · rw [HL1.out, HE.out]
          exact RAl.put (base := w2.heap.size) HQ3.out HR3.out.1 HR3.out.2 HQL.out
        · exact (HCH.out.trans (Chg.of_below HX3.out)).trans (Chg.setCell _ _ _ _)
set_option maxHeartbeats 8000000 in
set_option maxRecDepth 100000 in
theorem rput_old (q : Nat) (id at_ most : Int) (L : List On) (w : World) (h : Hid (RAl w q L most)) (hL : Hid (L.length ≤ 1000)) (hmost : -9223372036854775808 ≤ most ∧ most ≤ 9223372036854775807) (hf : hasD id L = true) :
    Calls Try.prog 11 #[.pointer (some ⟨q, 0, none⟩), .int .u64 id, .int .u64 at_] w fun e w' => e = .returned (.int .i64 0) ∧ RAl w' q (insD ⟨id, at_⟩ (dropD id L)) most ∧ Chg (fun k => k = q) w w' := by
  obtain ⟨a, cap, h1, h2, h3⟩ := h.out
  have c0 := cell_atA 0 h1
  have c1 := cell_atA 1 h1
  simp at c0 c1
  have hlen := hL.out
  obtain ⟨n, hn⟩ : ∃ n, L.length = n := ⟨_, rfl⟩
  rw [hn] at c0 hlen
  have HN := Lib.hid hn
  clear h1 h2 h3 hn
  obtain ⟨mm, hmm⟩ : ∃ mm, max 0 most = mm := ⟨_, rfl⟩
  have hm1 : (if (0 : Int) < most then most else 0) = mm := by split <;> omega
  have hm2 : (if most < (0 : Int) then 0 else most) = mm := by split <;> omega
  obtain ⟨pl, hpl⟩ : ∃ pl, foundD id L = pl := ⟨_, rfl⟩
  have HP : Hid (placeD id L = (pl : Int)) := Lib.hid (by unfold placeD; unfold hasD at hf; rw [if_pos (by simpa using hf), hpl])
  have hd : decide ((pl : Int) < 0) = false := by simp
  clear hf hpl
  go_enter Try.func11, Try.ntmps11
  go_wp2_with fail
  refine wp_region_held_drew (S := fun u => u.cell? ⟨q, 0, none⟩ = some (.slice a n cap) ∧ u.cell? ⟨q, 1, none⟩ = some (.int .i64 most)) (by kernel_rfl) ⟨c0, c1⟩ (fun hHeld => ?_)
  have HBB : Hid (Below w.heap.size w w.drew) := Lib.hid (below_drewA (Below.refl _ _))
  clear c0 c1
  refine wpAnyH_take (i := 0) (oi := ?o35) (v := ?v35) ?i35 (by kernel_rfl) (by kernel_rfl) (by kernel_rfl) ?q35 (Or.inl ⟨?w35, ?y35⟩) (by assumption) ?r35
  case' i35 => simp only [List.getElem?_toArray, List.getElem?_cons_succ, List.getElem?_cons_zero]
  case i35 => rfl
  case q35 => exact fun _ _ _ h => h
  case w35 => rfl
  case y35 => (intro w hSw; go_simp) <;> with_reducible rfl
  try simp only [Act.put, List.setIfInBounds_toArray, List.set_cons_zero, List.set_cons_succ]
  refine wpAnyH_take (i := 1) (oi := ?o36) (v := ?v36) ?i36 (by kernel_rfl) (by kernel_rfl) (by kernel_rfl) ?q36 (Or.inl ⟨?w36, ?y36⟩) (by assumption) ?r36
  case' i36 => simp only [List.getElem?_toArray, List.getElem?_cons_succ, List.getElem?_cons_zero]
  case i36 => rfl
  case q36 => exact fun _ _ _ h => h
  case w36 => rfl
  case y36 => (intro w hSw; go_simp) <;> with_reducible rfl
  try simp only [Act.put, List.setIfInBounds_toArray, List.set_cons_zero, List.set_cons_succ]
  refine wpAnyH_ready (rs := [2]) (by kernel_rfl) (by simp) ?_
  refine AllReadyH.cons (o := ?o37) ?i37 (fun K' hK => ?_) AllReadyH.nil
  case' i37 => simp only [List.getElem?_toArray, List.getElem?_cons_succ, List.getElem?_cons_zero]
  case i37 => rfl
  go_simp
  go_at_call 25
  refine (rplace_k q id most L _ (Lib.hid (RAl.below h.out HBB.out))).mono ?_
  rintro e w' ⟨rfl, hb⟩
  rw [HP.out]
  have HBB' := Lib.hid (HBB.out.trans (hb.mono HBB.out.size))
  have hHeld' : w'.cell? ⟨q, 0, none⟩ = some (.slice a n cap) ∧ w'.cell? ⟨q, 1, none⟩ = some (.int .i64 most) := ⟨(hb.cell (block_lt_of_cell hHeld.1)).trans hHeld.1, (hb.cell (block_lt_of_cell hHeld.2)).trans hHeld.2⟩
  clear HBB hb
  have HBB := HBB'
  clear HBB'
  go_wp2_with fail
  refine hK.out _ _ hHeld' (fun _ => ?_)
  clear hK K' hHeld
  have hHeld := hHeld'
  clear hHeld'
  try simp only [Act.put, List.setIfInBounds_toArray, List.set_cons_zero, List.set_cons_succ]
  refine wpAnyH_take (i := 3) (oi := ?o38) (v := ?v38) ?i38 (by kernel_rfl) (by kernel_rfl) (by kernel_rfl) ?q38 (Or.inl ⟨?w38, ?y38⟩) (by assumption) ?r38
  case' i38 => simp only [List.getElem?_toArray, List.getElem?_cons_succ, List.getElem?_cons_zero]
  case i38 => rfl
  case q38 => exact fun _ _ _ h => h
  case w38 => rfl
  case y38 => (intro w hSw; go_simp) <;> with_reducible rfl
  try simp only [Act.put, List.setIfInBounds_toArray, List.set_cons_zero, List.set_cons_succ]
  refine wpAnyH_take (i := 4) (oi := ?o39) (v := ?v39) ?i39 (by kernel_rfl) (by kernel_rfl) (by kernel_rfl) ?q39 (Or.inl ⟨?w39, ?y39⟩) (by assumption) ?r39
  case' i39 => simp only [List.getElem?_toArray, List.getElem?_cons_succ, List.getElem?_cons_zero]
  case i39 => rfl
  case q39 => exact fun _ _ _ h => h
  case w39 => rfl
  case y39 => (intro w hSw; go_simp) <;> with_reducible rfl
  try simp only [Act.put, List.setIfInBounds_toArray, List.set_cons_zero, List.set_cons_succ]
  refine wpAnyH_take (i := 5) (oi := ?o40) (v := undef) ?i40 (by kernel_rfl) (by kernel_rfl) (by kernel_rfl) ?q40 (Or.inr ⟨?w40, rfl⟩) (by assumption) ?r40
  case' i40 => simp only [List.getElem?_toArray, List.getElem?_cons_succ, List.getElem?_cons_zero]
  case i40 => rfl
  case q40 => exact fun _ _ _ h => h
  case w40 => rfl
  try simp only [Act.put, List.setIfInBounds_toArray, List.set_cons_zero, List.set_cons_succ]
  refine wpAnyH_take (i := 6) (oi := ?o41) (v := undef) ?i41 (by kernel_rfl) (by kernel_rfl) (by kernel_rfl) ?q41 (Or.inr ⟨?w41, rfl⟩) (by assumption) ?r41
  case' i41 => simp only [List.getElem?_toArray, List.getElem?_cons_succ, List.getElem?_cons_zero]
  case i41 => rfl
  case q41 => exact fun _ _ _ h => h
  case w41 => rfl
  try simp only [Act.put, List.setIfInBounds_toArray, List.set_cons_zero, List.set_cons_succ]
  refine wpAnyH_take (i := 7) (oi := ?o42) (v := undef) ?i42 (by kernel_rfl) (by kernel_rfl) (by kernel_rfl) ?q42 (Or.inr ⟨?w42, rfl⟩) (by assumption) ?r42
  case' i42 => simp only [List.getElem?_toArray, List.getElem?_cons_succ, List.getElem?_cons_zero]
  case i42 => rfl
  case q42 => exact fun _ _ _ h => h
  case w42 => rfl
  try simp only [Act.put, List.setIfInBounds_toArray, List.set_cons_zero, List.set_cons_succ]
  refine wpAnyH_take (i := 8) (oi := ?o43) (v := undef) ?i43 (by kernel_rfl) (by kernel_rfl) (by kernel_rfl) ?q43 (Or.inr ⟨?w43, rfl⟩) (by assumption) ?r43
  case' i43 => simp only [List.getElem?_toArray, List.getElem?_cons_succ, List.getElem?_cons_zero]
  case i43 => rfl
  case q43 => exact fun _ _ _ h => h
  case w43 => rfl
  try simp only [Act.put, List.setIfInBounds_toArray, List.set_cons_zero, List.set_cons_succ]
  refine wpAnyH_take (i := 9) (oi := ?o44) (v := undef) ?i44 (by kernel_rfl) (by kernel_rfl) (by kernel_rfl) ?q44 (Or.inr ⟨?w44, rfl⟩) (by assumption) ?r44
  case' i44 => simp only [List.getElem?_toArray, List.getElem?_cons_succ, List.getElem?_cons_zero]
  case i44 => rfl
  case q44 => exact fun _ _ _ h => h
  case w44 => rfl
  try simp only [Act.put, List.setIfInBounds_toArray, List.set_cons_zero, List.set_cons_succ]
  refine wpAnyH_take (i := 10) (oi := ?o45) (v := undef) ?i45 (by kernel_rfl) (by kernel_rfl) (by kernel_rfl) ?q45 (Or.inr ⟨?w45, rfl⟩) (by assumption) ?r45
  case' i45 => simp only [List.getElem?_toArray, List.getElem?_cons_succ, List.getElem?_cons_zero]
  case i45 => rfl
  case q45 => exact fun _ _ _ h => h
  case w45 => rfl
  try simp only [Act.put, List.setIfInBounds_toArray, List.set_cons_zero, List.set_cons_succ]
  refine wpAnyH_take (i := 11) (oi := ?o46) (v := undef) ?i46 (by kernel_rfl) (by kernel_rfl) (by kernel_rfl) ?q46 (Or.inr ⟨?w46, rfl⟩) (by assumption) ?r46
  case' i46 => simp only [List.getElem?_toArray, List.getElem?_cons_succ, List.getElem?_cons_zero]
  case i46 => rfl
  case q46 => exact fun _ _ _ h => h
  case w46 => rfl
  try simp only [Act.put, List.setIfInBounds_toArray, List.set_cons_zero, List.set_cons_succ]
  refine wpAnyH_take (i := 12) (oi := ?o47) (v := undef) ?i47 (by kernel_rfl) (by kernel_rfl) (by kernel_rfl) ?q47 (Or.inr ⟨?w47, rfl⟩) (by assumption) ?r47
  case' i47 => simp only [List.getElem?_toArray, List.getElem?_cons_succ, List.getElem?_cons_zero]
  case i47 => rfl
  case q47 => exact fun _ _ _ h => h
  case w47 => rfl
  try simp only [Act.put, List.setIfInBounds_toArray, List.set_cons_zero, List.set_cons_succ]
  refine wpAnyH_take (i := 13) (oi := ?o48) (v := undef) ?i48 (by kernel_rfl) (by kernel_rfl) (by kernel_rfl) ?q48 (Or.inr ⟨?w48, rfl⟩) (by assumption) ?r48
  case' i48 => simp only [List.getElem?_toArray, List.getElem?_cons_succ, List.getElem?_cons_zero]
  case i48 => rfl
  case q48 => exact fun _ _ _ h => h
  case w48 => rfl
  try simp only [Act.put, List.setIfInBounds_toArray, List.set_cons_zero, List.set_cons_succ]
  refine wpAnyH_take (i := 14) (oi := ?o49) (v := undef) ?i49 (by kernel_rfl) (by kernel_rfl) (by kernel_rfl) ?q49 (Or.inr ⟨?w49, rfl⟩) (by assumption) ?r49
  case' i49 => simp only [List.getElem?_toArray, List.getElem?_cons_succ, List.getElem?_cons_zero]
  case i49 => rfl
  case q49 => exact fun _ _ _ h => h
  case w49 => rfl
  try simp only [Act.put, List.setIfInBounds_toArray, List.set_cons_zero, List.set_cons_succ]
  refine wpAnyH_take (i := 15) (oi := ?o50) (v := undef) ?i50 (by kernel_rfl) (by kernel_rfl) (by kernel_rfl) ?q50 (Or.inr ⟨?w50, rfl⟩) (by assumption) ?r50
  case' i50 => simp only [List.getElem?_toArray, List.getElem?_cons_succ, List.getElem?_cons_zero]
  case i50 => rfl
  case q50 => exact fun _ _ _ h => h
  case w50 => rfl
  try simp only [Act.put, List.setIfInBounds_toArray, List.set_cons_zero, List.set_cons_succ]
  refine wpAnyH_take (i := 16) (oi := ?o51) (v := ?v51) ?i51 (by kernel_rfl) (by kernel_rfl) (by kernel_rfl) ?q51 (Or.inl ⟨?w51, ?y51⟩) (by assumption) ?r51
  case' i51 => simp only [List.getElem?_toArray, List.getElem?_cons_succ, List.getElem?_cons_zero]
  case i51 => rfl
  case q51 => exact fun _ _ _ h => h
  case w51 => rfl
  case y51 => (intro w hSw; go_simp) <;> with_reducible rfl
  try simp only [Act.put, List.setIfInBounds_toArray, List.set_cons_zero, List.set_cons_succ]
  refine wpAnyH_done (by kernel_rfl) ?_ _
  go_wp2_with fail
  rename World => wz
  refine (rdrop_k q id most L _ (RAl.below h.out HBB.out) hL.out).mono ?_
  rintro e w2 ⟨rfl, hr2, hch⟩
  obtain ⟨L1, hL1⟩ : ∃ L1, dropD id L = L1 := ⟨_, rfl⟩
  rw [hL1] at hr2
  have HL1 := Lib.hid hL1
  have HL1n : Hid (L1.length ≤ 1000) := Lib.hid (by rw [← hL1]; exact Nat.le_trans (dropD_len id L) hL.out)
  have HR2 := Lib.hid hr2
  have HCH := Lib.hid (show Chg (fun k => k = q) w w2 from (Chg.of_below HBB.out).trans hch)
  obtain ⟨a1, cap1, d0, d1, df, hrow, hq2⟩ := hr2.cell
  have HROW := Lib.hid hrow
  have HQ2 := Lib.hid hq2
  obtain ⟨n1, hn1⟩ : ∃ n1, L1.length = n1 := ⟨_, rfl⟩
  rw [hn1] at d0 HQ2
  have HN1 := Lib.hid hn1
  have hn1k : (n1 : Int) ≤ 1000 := by have := HL1n.out; omega
  have HO0 : Hid (OwnO 70 w2.heap.size (.slice (some ⟨w2.heap.size, 0, none⟩) 0 0) [] (w2.alloc (.cells #[] 70))) := Lib.hid (OwnO.new _ _ (Nat.le_refl _))
  have HBW0 : Hid (Below w2.heap.size w2 (w2.alloc (.cells #[] 70))) := Lib.hid (below_alloc _ _)
  clear hL1 hr2 hch hrow hq2 hn1 HBB d0 d1 df
  go_wp2_with fail
  go_loopw [7, 8, 9] (fun v dv i wr => ∃ (k : Nat) (M : List On) (dn : Bool), k ≤ n1 ∧ i = .int .i64 k ∧ dv = .bool dn ∧ Hid (insGo ⟨id, at_⟩ (L1.take k) = (M, dn)) ∧ Hid (OwnO 70 w2.heap.size v M wr) ∧ Hid (Below w2.heap.size w2 wr)) (fun _ _ i _ => n1 - (intOf i).toNat)
  case atStart => exact ⟨0, [], false, Nat.zero_le _, rfl, rfl, Lib.hid rfl, HO0, HBW0⟩
  case round =>
    clear HO0 HBW0
    obtain ⟨k, M, dn, hk, rfl, rfl, HS0, HO, HB⟩ := hrel
    have hq := (HB.out.block q (blk_lt HQ2.out)).trans HQ2.out
    have c0 := cell_atA 0 hq
    simp at c0
    have HML : Hid (M.length ≤ 1001) := Lib.hid (by
      have := (insGo_len ⟨id, at_⟩ (L1.take k)).1
      rw [HS0.out, List.length_take] at this
      have := HL1n.out
      simp only at *
      omega)
    by_cases hlt : k < n1
    · have hlt' : (k : Int) < (n1 : Int) := by omega
      have e1 : decide (k < n1) = true := by simpa using hlt
      obtain ⟨_, _, b, off, hr⟩ := HROW.out.below HB.out
      obtain ⟨hae, x0, x1⟩ := hr k (by rw [HN1.out]; exact hlt)
      subst hae
      have HGO : Hid (insGo ⟨id, at_⟩ (L1.take (k + 1)) = insStep ⟨id, at_⟩ (insGo ⟨id, at_⟩ (L1.take k)) (gt L1 k)) := Lib.hid (insGo_take (by rw [HN1.out]; exact hlt))
      generalize gt L1 k = o at x0 x1 HGO
      obtain ⟨oid, oat⟩ := o
      dsimp only at x0 x1
      have HK := Lib.hid hlt
      clear hr hlt hq
      have HU : Hid (Below w2.heap.size w2 (wr.alloc (.cells #[.int .u64 oid, .int .u64 oat] 70))) := Lib.hid (HB.out.trans ((below_alloc _ _).mono HB.out.size))
      have HO1 := Lib.hid (HO.out.below (below_alloc wr (.cells #[.int .u64 oid, .int .u64 oat] 70)))
      obtain ⟨a0, k0, hv0, _⟩ := HO.out.at
      subst hv0
      cases hdn : dn with
      | true =>
        have HST : Hid (insGo ⟨id, at_⟩ (L1.take (k + 1)) = (M ++ [⟨oid, oat⟩], true)) := Lib.hid (by rw [HGO.out, HS0.out, hdn]; simp [insStep])
        subst hdn
        go_wp2_with (at_builtin; refine wpList_appO1 rfl (.tmp 74) (.tmp 76) 26 70 Try.underlying26 infoO rfl w2.heap.size _ M (⟨oid, oat⟩ : On) _ rfl (HO1.out.below (below_alloc _ _)) (wr.heap.size + 1) 1 rfl (by have := heap_alloc_new (wr.alloc (.cells #[.int .u64 oid, .int .u64 oat] 70)) (.cells #[.int .u64 oid, .int .u64 oat] 70); rw [World.size_alloc] at this; exact this) (by have := HML.out; simp; omega) (by have := HU.out.size; simp at this ⊢; omega) ?_; intro v1 x1 hA; have HA1 := Lib.hid hA; clear hA; have HX1 : Hid (Below w2.heap.size w2 x1) := Lib.hid (HU.out.trans (((below_alloc (wr.alloc (.cells #[.int .u64 oid, .int .u64 oat] 70)) _).mono HU.out.size).trans HA1.out.low)))
        go_roundw
        case rel => exact ⟨k + 1, M ++ [⟨oid, oat⟩], true, by have := HK.out; omega, by go_num, rfl, HST, Lib.hid HA1.out.own, HX1⟩
        case measure => have := HK.out; simp [intOf]; omega
      | false =>
        subst hdn
        cases hq1 : decide (at_ < oat) with
        | true =>
          have HST : Hid (insGo ⟨id, at_⟩ (L1.take (k + 1)) = (M ++ [⟨id, at_⟩] ++ [⟨oid, oat⟩], true)) := Lib.hid (by rw [HGO.out, HS0.out]; simp [insStep, ltO, hq1])
          go_wp2_with (first | (at_builtin; refine wpList_appO1 rfl (.tmp 68) (.tmp 72) 26 70 Try.underlying26 infoO rfl w2.heap.size _ M (⟨id, at_⟩ : On) _ rfl (HO1.out.below (below_alloc _ _)) (wr.heap.size + 1) 1 rfl (by have := heap_alloc_new (wr.alloc (.cells #[.int .u64 oid, .int .u64 oat] 70)) (.cells #[.int .u64 id, .int .u64 at_] 70); rw [World.size_alloc] at this; exact this) (by have := HML.out; simp; omega) (by have := HU.out.size; simp at this ⊢; omega) ?_; intro v1 x1 hA; have HA1 := Lib.hid hA; clear hA; have HX1 : Hid (Below w2.heap.size w2 x1) := Lib.hid (HU.out.trans (((below_alloc (wr.alloc (.cells #[.int .u64 oid, .int .u64 oat] 70)) _).mono HU.out.size).trans HA1.out.low)); have hbx : x1.heap[wr.heap.size]? = some (.cells #[.int .u64 oid, .int .u64 oat] 70 (0, 0)) := (Chg.grown HA1.out.grown).blk (((below_alloc (wr.alloc (.cells #[.int .u64 oid, .int .u64 oat] 70)) _).block wr.heap.size (by simp)).trans (heap_alloc_new wr _)) (fun e => by have := (World.ownsRow.lt HO.out _ e.symm).2; omega); have g0 := cell_atA 0 hbx; have g1 := cell_atA 1 hbx; simp at g0 g1; clear hbx; have HO2 : ∀ o, OwnO 70 w2.heap.size v1 (M ++ [⟨id, at_⟩]) (x1.alloc o) := (fun o => HA1.out.own.below (below_alloc x1 o))) | (at_builtin; refine wpList_appO1 rfl (.tmp 74) (.tmp 76) 26 70 Try.underlying26 infoO rfl w2.heap.size _ (M ++ [(⟨id, at_⟩ : On)]) (⟨oid, oat⟩ : On) _ rfl (HO2 _) x1.heap.size 1 rfl (heap_alloc_new x1 _) (by have := HML.out; simp; omega) (by have := HX1.out.size; simp; omega) ?_; intro v2 x2 hA; have HA2 := Lib.hid hA; clear hA; have HX2 : Hid (Below w2.heap.size w2 x2) := Lib.hid (HX1.out.trans (((below_alloc x1 _).mono HX1.out.size).trans HA2.out.low)); clear g0 g1))
          go_roundw
          case rel => exact ⟨k + 1, M ++ [⟨id, at_⟩] ++ [⟨oid, oat⟩], true, by have := HK.out; omega, by go_num, rfl, HST, Lib.hid HA2.out.own, HX2⟩
          case measure => have := HK.out; simp [intOf]; omega
        | false =>
          cases hq2 : (at_ == oat) with
          | false =>
            have HST : Hid (insGo ⟨id, at_⟩ (L1.take (k + 1)) = (M ++ [⟨oid, oat⟩], false)) := Lib.hid (by rw [HGO.out, HS0.out]; simp [insStep, ltO, hq1, hq2])
            go_wp2_with (at_builtin; refine wpList_appO1 rfl (.tmp 74) (.tmp 76) 26 70 Try.underlying26 infoO rfl w2.heap.size _ M (⟨oid, oat⟩ : On) _ rfl (HO1.out.below (below_alloc _ _)) (wr.heap.size + 1) 1 rfl (by have := heap_alloc_new (wr.alloc (.cells #[.int .u64 oid, .int .u64 oat] 70)) (.cells #[.int .u64 oid, .int .u64 oat] 70); rw [World.size_alloc] at this; exact this) (by have := HML.out; simp; omega) (by have := HU.out.size; simp at this ⊢; omega) ?_; intro v1 x1 hA; have HA1 := Lib.hid hA; clear hA; have HX1 : Hid (Below w2.heap.size w2 x1) := Lib.hid (HU.out.trans (((below_alloc (wr.alloc (.cells #[.int .u64 oid, .int .u64 oat] 70)) _).mono HU.out.size).trans HA1.out.low)))
            go_roundw
            case rel => exact ⟨k + 1, M ++ [⟨oid, oat⟩], false, by have := HK.out; omega, by go_num, rfl, HST, Lib.hid HA1.out.own, HX1⟩
            case measure => have := HK.out; simp [intOf]; omega
          | true =>
            cases hq3 : decide (id < oid) with
            | true =>
              have HST : Hid (insGo ⟨id, at_⟩ (L1.take (k + 1)) = (M ++ [⟨id, at_⟩] ++ [⟨oid, oat⟩], true)) := Lib.hid (by rw [HGO.out, HS0.out]; simp [insStep, ltO, hq1, hq2, hq3])
              go_wp2_with (first | (at_builtin; refine wpList_appO1 rfl (.tmp 68) (.tmp 72) 26 70 Try.underlying26 infoO rfl w2.heap.size _ M (⟨id, at_⟩ : On) _ rfl (HO1.out.below (below_alloc _ _)) (wr.heap.size + 1) 1 rfl (by have := heap_alloc_new (wr.alloc (.cells #[.int .u64 oid, .int .u64 oat] 70)) (.cells #[.int .u64 id, .int .u64 at_] 70); rw [World.size_alloc] at this; exact this) (by have := HML.out; simp; omega) (by have := HU.out.size; simp at this ⊢; omega) ?_; intro v1 x1 hA; have HA1 := Lib.hid hA; clear hA; have HX1 : Hid (Below w2.heap.size w2 x1) := Lib.hid (HU.out.trans (((below_alloc (wr.alloc (.cells #[.int .u64 oid, .int .u64 oat] 70)) _).mono HU.out.size).trans HA1.out.low)); have hbx : x1.heap[wr.heap.size]? = some (.cells #[.int .u64 oid, .int .u64 oat] 70 (0, 0)) := (Chg.grown HA1.out.grown).blk (((below_alloc (wr.alloc (.cells #[.int .u64 oid, .int .u64 oat] 70)) _).block wr.heap.size (by simp)).trans (heap_alloc_new wr _)) (fun e => by have := (World.ownsRow.lt HO.out _ e.symm).2; omega); have g0 := cell_atA 0 hbx; have g1 := cell_atA 1 hbx; simp at g0 g1; clear hbx; have HO2 : ∀ o, OwnO 70 w2.heap.size v1 (M ++ [⟨id, at_⟩]) (x1.alloc o) := (fun o => HA1.out.own.below (below_alloc x1 o))) | (at_builtin; refine wpList_appO1 rfl (.tmp 74) (.tmp 76) 26 70 Try.underlying26 infoO rfl w2.heap.size _ (M ++ [(⟨id, at_⟩ : On)]) (⟨oid, oat⟩ : On) _ rfl (HO2 _) x1.heap.size 1 rfl (heap_alloc_new x1 _) (by have := HML.out; simp; omega) (by have := HX1.out.size; simp; omega) ?_; intro v2 x2 hA; have HA2 := Lib.hid hA; clear hA; have HX2 : Hid (Below w2.heap.size w2 x2) := Lib.hid (HX1.out.trans (((below_alloc x1 _).mono HX1.out.size).trans HA2.out.low)); clear g0 g1))
              go_roundw
              case rel => exact ⟨k + 1, M ++ [⟨id, at_⟩] ++ [⟨oid, oat⟩], true, by have := HK.out; omega, by go_num, rfl, HST, Lib.hid HA2.out.own, HX2⟩
              case measure => have := HK.out; simp [intOf]; omega
            | false =>
              have HST : Hid (insGo ⟨id, at_⟩ (L1.take (k + 1)) = (M ++ [⟨oid, oat⟩], false)) := Lib.hid (by rw [HGO.out, HS0.out]; simp [insStep, ltO, hq1, hq2, hq3])
              go_wp2_with (at_builtin; refine wpList_appO1 rfl (.tmp 74) (.tmp 76) 26 70 Try.underlying26 infoO rfl w2.heap.size _ M (⟨oid, oat⟩ : On) _ rfl (HO1.out.below (below_alloc _ _)) (wr.heap.size + 1) 1 rfl (by have := heap_alloc_new (wr.alloc (.cells #[.int .u64 oid, .int .u64 oat] 70)) (.cells #[.int .u64 oid, .int .u64 oat] 70); rw [World.size_alloc] at this; exact this) (by have := HML.out; simp; omega) (by have := HU.out.size; simp at this ⊢; omega) ?_; intro v1 x1 hA; have HA1 := Lib.hid hA; clear hA; have HX1 : Hid (Below w2.heap.size w2 x1) := Lib.hid (HU.out.trans (((below_alloc (wr.alloc (.cells #[.int .u64 oid, .int .u64 oat] 70)) _).mono HU.out.size).trans HA1.out.low)))
              go_roundw
              case rel => exact ⟨k + 1, M ++ [⟨oid, oat⟩], false, by have := HK.out; omega, by go_num, rfl, HST, Lib.hid HA1.out.own, HX1⟩
              case measure => have := HK.out; simp [intOf]; omega
    · obtain rfl : k = n1 := by omega
      have e1 : decide (k < k) = false := decide_eq_false (Nat.lt_irrefl _)
      have HTK : Hid (insGo ⟨id, at_⟩ L1 = (M, dn)) := Lib.hid (by have := HS0.out; rw [List.take_of_length_le (by rw [HN1.out]; exact Nat.le_refl _)] at this; exact this)
      have HSZ : Hid (w2.heap.size ≤ wr.heap.size ∧ w.heap.size ≤ w2.heap.size) := Lib.hid ⟨HB.out.size, HCH.out.size⟩
      have HQL : Hid (q < w2.heap.size) := Lib.hid (blk_lt HQ2.out)
      clear hlt hk
      cases hdn : dn with
      | true =>
        subst hdn
        have HE : Hid (insD ⟨id, at_⟩ L1 = M) := Lib.hid (by unfold insD; rw [HTK.out]; rfl)
        have HQR := Lib.hid hq
        have hfz := frz_atA 0 hq
        obtain ⟨a0, k0, hv0, hr0, hb0⟩ := HO.out.at
        subst hv0
        have HRR := Lib.hid (And.intro hr0 hb0)
        clear hr0 hb0 hq
        go_wp2_with fail
        go_ret
        refine ⟨rfl, ?_, ?_⟩
        · rw [HL1.out, HE.out]
          exact RAl.put (base := w2.heap.size) HQR.out HRR.out.1 HRR.out.2 HQL.out
        · exact (HCH.out.trans (Chg.of_below (HB.out.mono (Nat.le_refl _)))).trans (Chg.setCell _ _ _ _)
      | false =>
        subst hdn
        obtain ⟨G, hG⟩ : ∃ G, M ++ [⟨id, at_⟩] = G := ⟨_, rfl⟩
        have HE : Hid (insD ⟨id, at_⟩ L1 = G) := Lib.hid (by unfold insD; rw [HTK.out, ← hG]; rfl)
        have HGE := Lib.hid hG
        clear hG hq
        obtain ⟨a0, k0, hv0, _⟩ := HO.out.at
        subst hv0
        go_wp2_with (at_builtin; refine wpList_appO1 rfl (.tmp 80) (.tmp 84) 26 70 Try.underlying26 infoO rfl w2.heap.size _ M (⟨id, at_⟩ : On) _ rfl (HO.out.below (below_alloc _ _)) wr.heap.size 1 rfl (heap_alloc_new wr _) (by have := HML.out; simp; omega) (by have := HSZ.out; simp; omega) ?_; intro v3 x3 hA; have HA3 := Lib.hid hA; clear hA; have HX3 : Hid (Below w2.heap.size w2 x3) := Lib.hid (HB.out.trans (((below_alloc wr _).mono HB.out.size).trans HA3.out.low)); have hq3 := (HX3.out.block q (blk_lt HQ2.out)).trans HQ2.out; have HQ3 := Lib.hid hq3; have c3 := cell_atA 0 hq3; simp at c3; have f3 := frz_atA 0 hq3; clear hq3; have hown2 : OwnO 70 w2.heap.size v3 G x3 := (by have := HA3.out.own; rw [HGE.out] at this; exact this); obtain ⟨a2, k2, hv2, hr2, hb2⟩ := hown2.at; subst hv2; have HR3 := Lib.hid (And.intro hr2 hb2); clear hr2 hb2 hown2)
        go_ret
        refine ⟨rfl, ?_, ?_⟩
        · rw [HL1.out, HE.out]
          exact RAl.put (base := w2.heap.size) HQ3.out HR3.out.1 HR3.out.2 HQL.out
        · exact (HCH.out.trans (Chg.of_below HX3.out)).trans (Chg.setCell _ _ _ _)
theorem rput_k (q : Nat) (id at_ most : Int) (L : List On) (w : World) (h : RAl w q L most) (hL : L.length ≤ 1000) (hmost : -9223372036854775808 ≤ most ∧ most ≤ 9223372036854775807) :
    Calls Try.prog 11 #[.pointer (some ⟨q, 0, none⟩), .int .u64 id, .int .u64 at_] w fun e w' => e = .returned (.int .i64 (putD most id at_ L).2) ∧ RAl w' q (putD most id at_ L).1 most ∧ Chg (fun k => k = q) w w' := by
  by_cases hf : hasD id L = false ∧ max 0 most ≤ (L.length : Int)
  · have e : putD most id at_ L = (L, 8) := by unfold putD; rw [if_pos hf]
    rw [e]
    exact (rput_full q id at_ most L w (Lib.hid h) (Lib.hid hL) hmost hf.1 hf.2).mono fun e w' ⟨he, hb⟩ => ⟨he, h.below hb, Chg.of_below hb⟩
  · have e : putD most id at_ L = (insD ⟨id, at_⟩ (dropD id L), 0) := by unfold putD; rw [if_neg hf]
    rw [e]
    cases hq : hasD id L with
    | false => exact rput_room q id at_ most L w (Lib.hid h) (Lib.hid hL) hmost hq (fun q => hf ⟨hq, q⟩)
    | true => exact rput_old q id at_ most L w (Lib.hid h) (Lib.hid hL) hmost hq
end Go.Proofs.Ytcnfchjiiglijaa
