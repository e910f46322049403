/- The program's queue: its Swap, Push, Pop. -/
import Derived.Test.YtcnfchjiiglijaaQueM
import Derived.Deep.RegionHeld3
namespace Go.Proofs.Ytcnfchjiiglijaa
open Go.RowKit
set_option linter.unusedVariables false
set_option linter.unusedSimpArgs false
set_option maxRecDepth 20000
section
variable {w0 w w' : World} {q m : Nat} {g0 : Option Nat} {H : List On}
set_option maxHeartbeats 4000000 in
theorem q_swap : HSwap (QSt w0 q m g0) q := by
  intro H w i j hs hi hj hij
  obtain ⟨v, h1, h2, h3⟩ := hs
  obtain ⟨g, cap, hv, hn1, hn2, hr⟩ := h1.row.pos (by omega)
  obtain ⟨x0, x1, f0, f1⟩ := hr i hi
  obtain ⟨y0, y1, f2, f3⟩ := hr j hj
  have c0 := cell_atA 0 h1.blk
  have c1 := cell_atA 1 h1.blk
  simp at c0 c1
  obtain ⟨n, hn⟩ : ∃ n, H.length = n := ⟨_, rfl⟩
  obtain ⟨⟨xi, xa⟩, hx⟩ : ∃ x, gt H i = x := ⟨_, rfl⟩
  obtain ⟨⟨yi, ya⟩, hy⟩ : ∃ x, gt H j = x := ⟨_, rfl⟩
  rw [hn] at hi hj hv hn1
  rw [hx] at x0 x1
  rw [hy] at y0 y1
  rw [hv] at c0
  have HX := Lib.hid (And.intro h1 (And.intro h2 (And.intro h3 (And.intro hv (And.intro hn (And.intro hx (And.intro hy (And.intro hi hj))))))))
  have i1 : (i : Int) < (n : Int) := by omega
  have j1 : (j : Int) < (n : Int) := by omega
  have i0 : (0 : Int) ≤ (i : Int) := by omega
  have j0 : (0 : Int) ≤ (j : Int) := by omega
  have hn3 : n ≤ 9223372036854775807 := by unfold maxLen at hn2; omega
  have hgq : g ≠ q := by have := (h1.apart.2 g (by rw [hv]; rfl)).1; exact this
  have hqg : q ≠ g := fun e => hgq e.symm
  clear h1 h2 h3 hr hi hj hv hn hx hy hn1 hn2
  go_enter Try.func58, Try.ntmps58
  go_wp2_with fail
  have d0 : i * 2 ≠ j * 2 := by omega
  have d1 : i * 2 ≠ j * 2 + 1 := by omega
  have d2 : i * 2 + 1 ≠ j * 2 := by omega
  have d3 : i * 2 + 1 ≠ j * 2 + 1 := by omega
  go_region
  go_wp2_with fail
  -- REGION 1
  obtain ⟨w1, hw1⟩ : ∃ W, W = ((((w.setCell ⟨g, i * 2, none⟩ (.int .u64 yi)).setCell ⟨g, i * 2 + 1, none⟩ (.int .u64 ya)).setCell ⟨g, j * 2, none⟩ (.int .u64 xi)).setCell ⟨g, j * 2 + 1, none⟩ (.int .u64 xa)) := ⟨_, rfl⟩
  rw [← hw1]
  obtain ⟨h1, h2, h3, hv, hn, hx, hy, hi, hj⟩ := HX.out
  obtain ⟨ho, hc, hb, hm⟩ := row_swapped h1 hv hn hi hj hx hy hw1
  have HSW := Lib.hid (And.intro ho (And.intro hc hb))
  have HM := Lib.hid hm
  have hij2 := HX.out
  have HC : Hid (w1.cell? ⟨q, 0, none⟩ = some (.slice (some ⟨g, 0, none⟩) n cap) ∧ w1.cell? ⟨q, 1, none⟩ = some (.map (some m)) ∧ w1.cell? ⟨g, i * 2, none⟩ = some (.int .u64 yi) ∧ w1.cell? ⟨g, j * 2, none⟩ = some (.int .u64 xi)) := by
    have k0 := cell_atA 0 hb
    have k1 := cell_atA 1 hb
    simp at k0 k1
    obtain ⟨g', cap', hv', _, _, hr⟩ := ho.pos (by rw [swap_len]; omega)
    rw [hv, swap_len, hn] at hv'
    injection hv' with e1 _ e2
    injection e1 with e1
    injection e1 with e1
    subst e1
    have r1 := (hr i (by rw [swap_len]; omega)).1
    have r2 := (hr j (by rw [swap_len]; omega)).1
    rw [gt_swap (by omega) (by omega), if_neg (by omega), if_pos rfl, hy] at r1
    rw [gt_swap (by omega) (by omega), if_pos rfl, hx] at r2
    exact Lib.hid ⟨by rw [k0, hv], k1, r1, r2⟩
  have HP1 : Hid (Places H yi j) := Lib.hid ⟨j, by omega, rfl, by rw [hy]⟩
  have HNE : Hid (q ≠ m ∧ g ≠ m) := Lib.hid ⟨h1.apart.1, (h1.apart.2 g (by rw [hv]; rfl)).2.1⟩
  have hne : xi ≠ yi := fun e => d0 (by have := id_idx h1.once (i := i) (j := j) (by omega) (by omega) (by rw [hx, hy]; exact e); omega)
  have HP2 : Hid (putG (Places H) yi i xi i) := Lib.hid (.inr ⟨hne, i, by omega, rfl, by rw [hx]⟩)
  clear h1 h2 h3 hv hn hx hy hi hj ho hc hb hm hij2 hw1 hne x0 x1 y0 y1 f0 f1 f2 f3 c0 c1 d0 d1 d2 d3
  refine wp_region_held_drew (S := fun u => u.cell? ⟨q, 0, none⟩ = some (.slice (some ⟨g, 0, none⟩) n cap) ∧ u.cell? ⟨q, 1, none⟩ = some (.map (some m)) ∧ u.cell? ⟨g, i * 2, none⟩ = some (.int .u64 yi) ∧ u.cell? ⟨g, j * 2, none⟩ = some (.int .u64 xi)) (by kernel_rfl) HC.out (fun hHeld => ?_)
  have HM1 : Hid (MapP w1.drew m (Places H)) := Lib.hid HM.out
  clear HM HC
  refine wpAnyH_take (i := 0) (oi := ?o1) (v := ?v1) ?i1 (by kernel_rfl) (by kernel_rfl) (by kernel_rfl) ?q1 (Or.inl ⟨?w1, ?y1⟩) (by assumption) ?r1
  case' i1 => simp only [List.getElem?_toArray, List.getElem?_cons_succ, List.getElem?_cons_zero]
  case i1 => rfl
  case q1 => exact fun _ _ _ h => h
  case w1 => rfl
  case y1 => (intro w hSw; (try dsimp only at hSw); go_simp) <;> with_reducible rfl
  try simp only [Act.put, List.setIfInBounds_toArray, List.set_cons_zero, List.set_cons_succ]
  refine wpAnyH_take (i := 1) (oi := ?o2) (v := ?v2) ?i2 (by kernel_rfl) (by kernel_rfl) (by kernel_rfl) ?q2 (Or.inl ⟨?w2, ?y2⟩) (by assumption) ?r2
  case' i2 => simp only [List.getElem?_toArray, List.getElem?_cons_succ, List.getElem?_cons_zero]
  case i2 => rfl
  case q2 => exact fun _ _ _ h => h
  case w2 => rfl
  case y2 => (intro w hSw; (try dsimp only at hSw); go_simp) <;> with_reducible rfl
  try simp only [Act.put, List.setIfInBounds_toArray, List.set_cons_zero, List.set_cons_succ]
  refine wpAnyH_take (i := 2) (oi := ?o3) (v := ?v3) ?i3 (by kernel_rfl) (by kernel_rfl) (by kernel_rfl) ?q3 (Or.inl ⟨?w3, ?y3⟩) (by assumption) ?r3
  case' i3 => simp only [List.getElem?_toArray, List.getElem?_cons_succ, List.getElem?_cons_zero]
  case i3 => rfl
  case q3 => exact fun _ _ _ h => h
  case w3 => rfl
  case y3 => (intro w hSw; (try dsimp only at hSw); go_simp) <;> with_reducible rfl
  try simp only [Act.put, List.setIfInBounds_toArray, List.set_cons_zero, List.set_cons_succ]
  refine wpAnyH_take (i := 3) (oi := ?o4) (v := ?v4) ?i4 (by kernel_rfl) (by kernel_rfl) (by kernel_rfl) ?q4 (Or.inl ⟨?w4, ?y4⟩) (by assumption) ?r4
  case' i4 => simp only [List.getElem?_toArray, List.getElem?_cons_succ, List.getElem?_cons_zero]
  case i4 => rfl
  case q4 => exact fun _ _ _ h => h
  case w4 => rfl
  case y4 => (intro w hSw; obtain ⟨k0, k1, k2, k3⟩ := hSw; go_simp) <;> with_reducible rfl
  try simp only [Act.put, List.setIfInBounds_toArray, List.set_cons_zero, List.set_cons_succ]
  refine wpAnyH_take (i := 4) (oi := ?o5) (v := ?v5) ?i5 (by kernel_rfl) (by kernel_rfl) (by kernel_rfl) ?q5 (Or.inl ⟨?w5, ?y5⟩) (by assumption) ?r5
  case' i5 => simp only [List.getElem?_toArray, List.getElem?_cons_succ, List.getElem?_cons_zero]
  case i5 => rfl
  case q5 => exact fun _ _ _ h => h
  case w5 => rfl
  case y5 => (intro w hSw; (try dsimp only at hSw); go_simp) <;> with_reducible rfl
  try simp only [Act.put, List.setIfInBounds_toArray, List.set_cons_zero, List.set_cons_succ]
  refine wpAnyH_take (i := 5) (oi := ?o6) (v := ?v6) ?i6 (by kernel_rfl) (by kernel_rfl) (by kernel_rfl) ?q6 (Or.inl ⟨?w6, ?y6⟩) (by assumption) ?r6
  case' i6 => simp only [List.getElem?_toArray, List.getElem?_cons_succ, List.getElem?_cons_zero]
  case i6 => rfl
  case q6 => exact fun _ _ _ h => h
  case w6 => rfl
  case y6 => (intro w hSw; (try dsimp only at hSw); go_simp) <;> with_reducible rfl
  try simp only [Act.put, List.setIfInBounds_toArray, List.set_cons_zero, List.set_cons_succ]
  refine wpAnyH_take (i := 6) (oi := ?o7) (v := ?v7) ?i7 (by kernel_rfl) (by kernel_rfl) (by kernel_rfl) ?q7 (Or.inl ⟨?w7, ?y7⟩) (by assumption) ?r7
  case' i7 => simp only [List.getElem?_toArray, List.getElem?_cons_succ, List.getElem?_cons_zero]
  case i7 => rfl
  case q7 => exact fun _ _ _ h => h
  case w7 => rfl
  case y7 => (intro w hSw; (try dsimp only at hSw); go_simp) <;> with_reducible rfl
  try simp only [Act.put, List.setIfInBounds_toArray, List.set_cons_zero, List.set_cons_succ]
  refine wpAnyH_take (i := 7) (oi := ?o8) (v := ?v8) ?i8 (by kernel_rfl) (by kernel_rfl) (by kernel_rfl) ?q8 (Or.inl ⟨?w8, ?y8⟩) (by assumption) ?r8
  case' i8 => simp only [List.getElem?_toArray, List.getElem?_cons_succ, List.getElem?_cons_zero]
  case i8 => rfl
  case q8 => exact fun _ _ _ h => h
  case w8 => rfl
  case y8 => (intro w hSw; obtain ⟨k0, k1, k2, k3⟩ := hSw; go_simp) <;> with_reducible rfl
  try simp only [Act.put, List.setIfInBounds_toArray, List.set_cons_zero, List.set_cons_succ]
  refine wpAnyH_take (i := 8) (oi := ?o9) (v := ?v9) ?i9 (by kernel_rfl) (by kernel_rfl) (by kernel_rfl) ?q9 (Or.inl ⟨?w9, ?y9⟩) (by assumption) ?r9
  case' i9 => simp only [List.getElem?_toArray, List.getElem?_cons_succ, List.getElem?_cons_zero]
  case i9 => rfl
  case q9 => exact fun _ _ _ h => h
  case w9 => rfl
  case y9 => (intro w hSw; (try dsimp only at hSw); go_simp) <;> with_reducible rfl
  try simp only [Act.put, List.setIfInBounds_toArray, List.set_cons_zero, List.set_cons_succ]
  refine wpAnyH_take (i := 9) (oi := ?o10) (v := ?v10) ?i10 (by kernel_rfl) (by kernel_rfl) (by kernel_rfl) ?q10 (Or.inl ⟨?w10, ?y10⟩) (by assumption) ?r10
  case' i10 => simp only [List.getElem?_toArray, List.getElem?_cons_succ, List.getElem?_cons_zero]
  case i10 => rfl
  case q10 => exact fun _ _ _ h => h
  case w10 => rfl
  case y10 => (intro w hSw; (try dsimp only at hSw); go_simp) <;> with_reducible rfl
  try simp only [Act.put, List.setIfInBounds_toArray, List.set_cons_zero, List.set_cons_succ]
  refine wpAnyH_take (i := 10) (oi := ?o11) (v := ?v11) ?i11 (by kernel_rfl) (by kernel_rfl) (by kernel_rfl) ?q11 (Or.inl ⟨?w11, ?y11⟩) (by assumption) ?r11
  case' i11 => simp only [List.getElem?_toArray, List.getElem?_cons_succ, List.getElem?_cons_zero]
  case i11 => rfl
  case q11 => exact fun _ _ _ h => h
  case w11 => rfl
  case y11 => (intro w hSw; (try dsimp only at hSw); go_simp) <;> with_reducible rfl
  try simp only [Act.put, List.setIfInBounds_toArray, List.set_cons_zero, List.set_cons_succ]
  refine wpAnyH_take (i := 11) (oi := ?o12) (v := ?v12) ?i12 (by kernel_rfl) (by kernel_rfl) (by kernel_rfl) ?q12 (Or.inl ⟨?w12, ?y12⟩) (by assumption) ?r12
  case' i12 => simp only [List.getElem?_toArray, List.getElem?_cons_succ, List.getElem?_cons_zero]
  case i12 => rfl
  case q12 => exact fun _ _ _ h => h
  case w12 => rfl
  case y12 => (intro w hSw; obtain ⟨k0, k1, k2, k3⟩ := hSw; go_simp) <;> with_reducible rfl
  try simp only [Act.put, List.setIfInBounds_toArray, List.set_cons_zero, List.set_cons_succ]
  refine wpAnyH_take (i := 12) (oi := ?o13) (v := ?v13) ?i13 (by kernel_rfl) (by kernel_rfl) (by kernel_rfl) ?q13 (Or.inl ⟨?w13, ?y13⟩) (by assumption) ?r13
  case' i13 => simp only [List.getElem?_toArray, List.getElem?_cons_succ, List.getElem?_cons_zero]
  case i13 => rfl
  case q13 => exact fun _ _ _ h => h
  case w13 => rfl
  case y13 => (intro w hSw; (try dsimp only at hSw); go_simp) <;> with_reducible rfl
  try simp only [Act.put, List.setIfInBounds_toArray, List.set_cons_zero, List.set_cons_succ]
  refine wpAnyH_take (i := 13) (oi := ?o14) (v := ?v14) ?i14 (by kernel_rfl) (by kernel_rfl) (by kernel_rfl) ?q14 (Or.inl ⟨?w14, ?y14⟩) (by assumption) ?r14
  case' i14 => simp only [List.getElem?_toArray, List.getElem?_cons_succ, List.getElem?_cons_zero]
  case i14 => rfl
  case q14 => exact fun _ _ _ h => h
  case w14 => rfl
  case y14 => (intro w hSw; (try dsimp only at hSw); go_simp) <;> with_reducible rfl
  try simp only [Act.put, List.setIfInBounds_toArray, List.set_cons_zero, List.set_cons_succ]
  refine wpAnyH_take (i := 14) (oi := ?o15) (v := ?v15) ?i15 (by kernel_rfl) (by kernel_rfl) (by kernel_rfl) ?q15 (Or.inl ⟨?w15, ?y15⟩) (by assumption) ?r15
  case' i15 => simp only [List.getElem?_toArray, List.getElem?_cons_succ, List.getElem?_cons_zero]
  case i15 => rfl
  case q15 => exact fun _ _ _ h => h
  case w15 => rfl
  case y15 => (intro w hSw; (try dsimp only at hSw); go_simp) <;> with_reducible rfl
  try simp only [Act.put, List.setIfInBounds_toArray, List.set_cons_zero, List.set_cons_succ]
  refine wpAnyH_take (i := 15) (oi := ?o16) (v := ?v16) ?i16 (by kernel_rfl) (by kernel_rfl) (by kernel_rfl) ?q16 (Or.inl ⟨?w16, ?y16⟩) (by assumption) ?r16
  case' i16 => simp only [List.getElem?_toArray, List.getElem?_cons_succ, List.getElem?_cons_zero]
  case i16 => rfl
  case q16 => exact fun _ _ _ h => h
  case w16 => rfl
  case y16 => (intro w hSw; obtain ⟨k0, k1, k2, k3⟩ := hSw; go_simp) <;> with_reducible rfl
  try simp only [Act.put, List.setIfInBounds_toArray, List.set_cons_zero, List.set_cons_succ]
  refine wpAnyH_take (i := 16) (oi := ?o17) (v := ?v17) ?i17 (by kernel_rfl) (by kernel_rfl) (by kernel_rfl) ?q17 (Or.inl ⟨?w17, ?y17⟩) (by assumption) ?r17
  case' i17 => simp only [List.getElem?_toArray, List.getElem?_cons_succ, List.getElem?_cons_zero]
  case i17 => rfl
  case q17 => exact fun _ _ _ h => h
  case w17 => rfl
  case y17 => (intro w hSw; (try dsimp only at hSw); go_simp) <;> with_reducible rfl
  try simp only [Act.put, List.setIfInBounds_toArray, List.set_cons_zero, List.set_cons_succ]
  refine wpAnyH_take (i := 17) (oi := ?o18) (v := ?v18) ?i18 (by kernel_rfl) (by kernel_rfl) (by kernel_rfl) ?q18 (Or.inl ⟨?w18, ?y18⟩) (by assumption) ?r18
  case' i18 => simp only [List.getElem?_toArray, List.getElem?_cons_succ, List.getElem?_cons_zero]
  case i18 => rfl
  case q18 => exact fun _ _ _ h => h
  case w18 => rfl
  case y18 => (intro w hSw; (try dsimp only at hSw); go_simp) <;> with_reducible rfl
  try simp only [Act.put, List.setIfInBounds_toArray, List.set_cons_zero, List.set_cons_succ]
  refine wpAnyH_take (i := 18) (oi := ?o19) (v := ?v19) ?i19 (by kernel_rfl) (by kernel_rfl) (by kernel_rfl) ?q19 (Or.inl ⟨?w19, ?y19⟩) (by assumption) ?r19
  case' i19 => simp only [List.getElem?_toArray, List.getElem?_cons_succ, List.getElem?_cons_zero]
  case i19 => rfl
  case q19 => exact fun _ _ _ h => h
  case w19 => rfl
  case y19 => (intro w hSw; (try dsimp only at hSw); go_simp) <;> with_reducible rfl
  try simp only [Act.put, List.setIfInBounds_toArray, List.set_cons_zero, List.set_cons_succ]
  refine wpAnyH_take (i := 19) (oi := ?o20) (v := ?v20) ?i20 (by kernel_rfl) (by kernel_rfl) (by kernel_rfl) ?q20 (Or.inl ⟨?w20, ?y20⟩) (by assumption) ?r20
  case' i20 => simp only [List.getElem?_toArray, List.getElem?_cons_succ, List.getElem?_cons_zero]
  case i20 => rfl
  case q20 => exact fun _ _ _ h => h
  case w20 => rfl
  case y20 => (intro w hSw; obtain ⟨k0, k1, k2, k3⟩ := hSw; go_simp) <;> with_reducible rfl
  try simp only [Act.put, List.setIfInBounds_toArray, List.set_cons_zero, List.set_cons_succ]
  refine wpAnyH_take (i := 20) (oi := ?o21) (v := ?v21) ?i21 (by kernel_rfl) (by kernel_rfl) (by kernel_rfl) ?q21 (Or.inl ⟨?w21, ?y21⟩) (by assumption) ?r21
  case' i21 => simp only [List.getElem?_toArray, List.getElem?_cons_succ, List.getElem?_cons_zero]
  case i21 => rfl
  case q21 => exact fun _ _ _ h => h
  case w21 => rfl
  case y21 => (intro w hSw; (try dsimp only at hSw); go_simp) <;> with_reducible rfl
  try simp only [Act.put, List.setIfInBounds_toArray, List.set_cons_zero, List.set_cons_succ]
  refine wpAnyH_take (i := 21) (oi := ?o22) (v := ?v22) ?i22 (by kernel_rfl) (by kernel_rfl) (by kernel_rfl) ?q22 (Or.inl ⟨?w22, ?y22⟩) (by assumption) ?r22
  case' i22 => simp only [List.getElem?_toArray, List.getElem?_cons_succ, List.getElem?_cons_zero]
  case i22 => rfl
  case q22 => exact fun _ _ _ h => h
  case w22 => rfl
  case y22 => (intro w hSw; (try dsimp only at hSw); go_simp) <;> with_reducible rfl
  try simp only [Act.put, List.setIfInBounds_toArray, List.set_cons_zero, List.set_cons_succ]
  refine wpAnyH_take (i := 22) (oi := ?o23) (v := ?v23) ?i23 (by kernel_rfl) (by kernel_rfl) (by kernel_rfl) ?q23 (Or.inl ⟨?w23, ?y23⟩) (by assumption) ?r23
  case' i23 => simp only [List.getElem?_toArray, List.getElem?_cons_succ, List.getElem?_cons_zero]
  case i23 => rfl
  case q23 => exact fun _ _ _ h => h
  case w23 => rfl
  case y23 => (intro w hSw; (try dsimp only at hSw); go_simp) <;> with_reducible rfl
  try simp only [Act.put, List.setIfInBounds_toArray, List.set_cons_zero, List.set_cons_succ]
  refine wpAnyH_take (i := 23) (oi := ?o24) (v := ?v24) ?i24 (by kernel_rfl) (by kernel_rfl) (by kernel_rfl) ?q24 (Or.inl ⟨?w24, ?y24⟩) (by assumption) ?r24
  case' i24 => simp only [List.getElem?_toArray, List.getElem?_cons_succ, List.getElem?_cons_zero]
  case i24 => rfl
  case q24 => exact fun _ _ _ h => h
  case w24 => rfl
  case y24 => (intro w hSw; obtain ⟨k0, k1, k2, k3⟩ := hSw; go_simp) <;> with_reducible rfl
  try simp only [Act.put, List.setIfInBounds_toArray, List.set_cons_zero, List.set_cons_succ]
  refine wpAnyH_take (i := 24) (oi := ?o25) (v := ?v25) ?i25 (by kernel_rfl) (by kernel_rfl) (by kernel_rfl) ?q25 (Or.inl ⟨?w25, ?y25⟩) (by assumption) ?r25
  case' i25 => simp only [List.getElem?_toArray, List.getElem?_cons_succ, List.getElem?_cons_zero]
  case i25 => rfl
  case q25 => exact fun _ _ _ h => h
  case w25 => rfl
  case y25 => (intro w hSw; (try dsimp only at hSw); go_simp) <;> with_reducible rfl
  try simp only [Act.put, List.setIfInBounds_toArray, List.set_cons_zero, List.set_cons_succ]
  refine wpAnyH_take (i := 25) (oi := ?o26) (v := ?v26) ?i26 (by kernel_rfl) (by kernel_rfl) (by kernel_rfl) ?q26 (Or.inl ⟨?w26, ?y26⟩) (by assumption) ?r26
  case' i26 => simp only [List.getElem?_toArray, List.getElem?_cons_succ, List.getElem?_cons_zero]
  case i26 => rfl
  case q26 => exact fun _ _ _ h => h
  case w26 => rfl
  case y26 => (intro w hSw; (try dsimp only at hSw); go_simp) <;> with_reducible rfl
  try simp only [Act.put, List.setIfInBounds_toArray, List.set_cons_zero, List.set_cons_succ]
  refine wpAnyH_ready (rs := [26]) (by kernel_rfl) (by simp) ?_
  refine AllReadyH.cons (o := ?o27) ?i27 (fun K' hK => ?_) AllReadyH.nil
  case' i27 => simp only [List.getElem?_toArray, List.getElem?_cons_succ, List.getElem?_cons_zero]
  case i27 => rfl
  refine oper_entry rfl (.tmp 35) (.tmp 43) 54 29 3 rfl Try.underlying54 Try.underlying29 yi j rfl rfl HM1.out HP1.out ?_
  intro st hb
  have HB1 := Lib.hid hb
  clear hb
  refine hK.out _ _ hHeld (fun hHeld => ?_)
  clear hK K'
  try simp only [Act.put, List.setIfInBounds_toArray, List.set_cons_zero, List.set_cons_succ]
  refine wpAnyH_take (i := 27) (oi := ?o28) (v := ?v28) ?i28 (by kernel_rfl) (by kernel_rfl) (by kernel_rfl) ?q28 (Or.inl ⟨?w28, ?y28⟩) (by assumption) ?r28
  case' i28 => simp only [List.getElem?_toArray, List.getElem?_cons_succ, List.getElem?_cons_zero]
  case i28 => rfl
  case q28 => exact fun _ _ _ h => h
  case w28 => rfl
  case y28 => (intro w hSw; (try dsimp only at hSw); go_simp) <;> with_reducible rfl
  try simp only [Act.put, List.setIfInBounds_toArray, List.set_cons_zero, List.set_cons_succ]
  refine wpAnyH_ready (rs := [28]) (by kernel_rfl) (by simp) ?_
  refine AllReadyH.cons (o := ?o29) ?i29 (fun K' hK => ?_) AllReadyH.nil
  case' i29 => simp only [List.getElem?_toArray, List.getElem?_cons_succ, List.getElem?_cons_zero]
  case i29 => rfl
  refine oper_stored rfl (.tmp 35) (.tmp 59) (.tmp 56) 54 rfl yi i st rfl rfl rfl HM1.out HB1.out ?_
  intro w2 hm hc
  have HM2 := Lib.hid hm
  have HCw2 := Lib.hid hc
  have hH : w2.cell? ⟨q, 0, none⟩ = some (.slice (some ⟨g, 0, none⟩) n cap) ∧ w2.cell? ⟨q, 1, none⟩ = some (.map (some m)) ∧ w2.cell? ⟨g, i * 2, none⟩ = some (.int .u64 yi) ∧ w2.cell? ⟨g, j * 2, none⟩ = some (.int .u64 xi) := by
    obtain ⟨k0, k1, k2, k3⟩ := hHeld
    have far : ∀ (A : Addr) (v : Value), A.block ≠ m → w1.drew.cell? A = some v → w2.cell? A = some v := fun A v hA hv => by
      have := hc.block A.block (block_lt_of_cell hv) hA
      simp only [World.cell?, this]
      exact hv
    exact ⟨far _ _ HNE.out.1 k0, far _ _ HNE.out.1 k1, far _ _ HNE.out.2 k2, far _ _ HNE.out.2 k3⟩
  clear hm hc hHeld
  refine hK.out _ _ hH (fun hHeld => ?_)
  clear hK K' hH
  try simp only [Act.put, List.setIfInBounds_toArray, List.set_cons_zero, List.set_cons_succ]
  refine wpAnyH_ready (rs := [29]) (by kernel_rfl) (by simp) ?_
  refine AllReadyH.cons (o := ?o30) ?i30 (fun K' hK => ?_) AllReadyH.nil
  case' i30 => simp only [List.getElem?_toArray, List.getElem?_cons_succ, List.getElem?_cons_zero]
  case i30 => rfl
  refine oper_entry rfl (.tmp 47) (.tmp 55) 54 29 3 rfl Try.underlying54 Try.underlying29 xi i rfl rfl HM2.out HP2.out ?_
  intro su hb
  have HB2 := Lib.hid hb
  clear hb
  refine hK.out _ _ hHeld (fun hHeld => ?_)
  clear hK K'
  try simp only [Act.put, List.setIfInBounds_toArray, List.set_cons_zero, List.set_cons_succ]
  refine wpAnyH_take (i := 30) (oi := ?o31) (v := ?v31) ?i31 (by kernel_rfl) (by kernel_rfl) (by kernel_rfl) ?q31 (Or.inl ⟨?w31, ?y31⟩) (by assumption) ?r31
  case' i31 => simp only [List.getElem?_toArray, List.getElem?_cons_succ, List.getElem?_cons_zero]
  case i31 => rfl
  case q31 => exact fun _ _ _ h => h
  case w31 => rfl
  case y31 => (intro w hSw; (try dsimp only at hSw); go_simp) <;> with_reducible rfl
  try simp only [Act.put, List.setIfInBounds_toArray, List.set_cons_zero, List.set_cons_succ]
  refine wpAnyH_ready (rs := [31]) (by kernel_rfl) (by simp) ?_
  refine AllReadyH.cons (o := ?o32) ?i32 (fun K' hK => ?_) AllReadyH.nil
  case' i32 => simp only [List.getElem?_toArray, List.getElem?_cons_succ, List.getElem?_cons_zero]
  case i32 => rfl
  refine oper_stored rfl (.tmp 47) (.tmp 61) (.tmp 57) 54 rfl xi j su rfl rfl rfl HM2.out HB2.out ?_
  intro w3 hm hc
  have HM3 := Lib.hid hm
  have HCw3 := Lib.hid hc
  have hH : w3.cell? ⟨q, 0, none⟩ = some (.slice (some ⟨g, 0, none⟩) n cap) ∧ w3.cell? ⟨q, 1, none⟩ = some (.map (some m)) ∧ w3.cell? ⟨g, i * 2, none⟩ = some (.int .u64 yi) ∧ w3.cell? ⟨g, j * 2, none⟩ = some (.int .u64 xi) := by
    obtain ⟨k0, k1, k2, k3⟩ := hHeld
    have far : ∀ (A : Addr) (v : Value), A.block ≠ m → w2.cell? A = some v → w3.cell? A = some v := fun A v hA hv => by
      have := hc.block A.block (block_lt_of_cell hv) hA
      simp only [World.cell?, this]
      exact hv
    exact ⟨far _ _ HNE.out.1 k0, far _ _ HNE.out.1 k1, far _ _ HNE.out.2 k2, far _ _ HNE.out.2 k3⟩
  clear hm hc hHeld
  refine hK.out _ _ hH (fun hHeld => ?_)
  clear hK K' hH
  try simp only [Act.put, List.setIfInBounds_toArray, List.set_cons_zero, List.set_cons_succ]
  refine wpAnyH_done (by kernel_rfl) ?_ _
  go_wp2_with fail
  go_end0
  obtain ⟨h1, h2, h3, hv, hn, hx, hy, hi, hj⟩ := HX.out
  obtain ⟨ho, hc, hb⟩ := HSW.out
  have e1 : Chg (fun k => k = m) w1 w3 := (⟨HCw2.out.os, HCw2.out.tape, HCw2.out.output, HCw2.out.size, HCw2.out.block⟩ : Chg (fun k => k = m) w1 w2).trans HCw3.out
  refine ⟨rfl, v, ⟨e1.blk hb HNE.out.1, ho.chg e1 (fun k hk => ?_), HM3.out.congr (fun k u => ?_), nt_perm (swap_perm (by omega) (by omega)).symm h1.once⟩, (h2.wide hc ?_).wide e1 (fun k hk => .inl (.inr (.inl hk))), h3⟩
  · rw [hv] at hk
    obtain rfl : g = k := Option.some.inj hk
    exact HNE.out.2
  · have := places_swap h1.once (i := i) (j := j) (by omega) (by omega) k u
    rw [hx, hy] at this
    exact this
  · intro k hk
    subst hk
    rcases h3 k (by rw [hv]; rfl) with q | q
    · exact .inl (.inr (.inr q))
    · exact .inr q

end
end Go.Proofs.Ytcnfchjiiglijaa
