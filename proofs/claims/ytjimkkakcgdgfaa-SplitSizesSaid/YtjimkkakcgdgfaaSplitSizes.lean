/- SplitSizes: a message has as many parts as its length, divided by their size, upwards; each has its place, all one number and that count; each but the last one is full. No condition. -/
import Derived.Test.YtjimkkakcgdgfaaRows
import Derived.Test.YtjimkkakcgdgfaaFragQ
import Derived.WalkKit
import Derived.ProofKit
import Derived.OpenShut
import Derived.ShutString
import Derived.ChangeOld
import Derived.Below
namespace Go.Proofs.Ytjimkkakcgdgfaa.splitSizes
open Go.ChangeShapes Go.WideShapes Go.ChangeAt Go.RowKit
open Go.ChangeMaps (open_string shut_string)
open Go.Proofs.Ytjimkkakcgdgfaa
set_option linter.unusedVariables false
set_option linter.unusedSimpArgs false
set_option maxRecDepth 20000

theorem own : ownKnob Try.prog.godebug = none := by kernel_rfl
theorem laidOut : laidOutB Try.prog = true := by kernel_rfl
set_option maxHeartbeats 16000000 in
set_option maxRecDepth 100000 in
theorem walk0 (a1 A : ByteArray) (x y id : Int) (k : Nat) (w : World) (hx0 : 0 ≤ x) (hx1 : x ≤ 4294967295) (hy0 : 0 ≤ y) (hy1 : y ≤ 65535)
    (m1 : min (a1.size : Int) 4096 = A.size) (u1 : A.size ≤ a1.size) (v1 : A.size ≤ 4096) (y1 : a1.extract 0 A.size = A) (w1 : a1.size ≤ maxLen) (hk : 1 + y % 1000 = (k : Int)) (hid : 1 + x = id) (hg : Good A id k) (h0 : Hid (A.size = 0)) :
    Calls Try.prog 6 #[.string a1, .int .u32 x, .int .u16 y] w fun e w' => e = .returned (.bool true) ∧ Below w.heap.size w w' := by
  have HG := Lib.hid hg
  have HA : Hid (A.size ≤ 1000000) := Lib.hid (by omega)
  have n1 : (if (4096 : Int) < (a1.size : Int) then (4096 : Int) else (a1.size : Int)) = (A.size : Int) := by rw [← m1]; omega
  have hk1 : (1 : Int) ≤ k := by have := hg.k1; omega
  have hk2 : (k : Int) ≤ 1000 := by have := hg.k2; omega
  have hk0 : ((k : Int) == 0) = false := by simp; omega
  unfold maxLen at w1
  have HCUT : Hid (cutF A id k = ([], 1)) := Lib.hid (cut_none h0.out)
  have hquo : ((A.size : Int) + (k : Int) - 1).tdiv (k : Int) = ((0 : Nat) : Int) := by
    have h3 := many_quo2 A.size k hg.k1
    rw [h0.out, many_zero k hg.k1] at h3
    rw [h0.out]; exact h3
  have he : A.toList.isEmpty = true := by rw [toList_empty h0.out]; rfl
  go_enter Try.func6, Try.ntmps6
  go_wp2_with fail
  refine (cut_l A id k _ HA.out [] 1 1 HCUT.out rfl).mono ?_
  rintro e wb ⟨v, rfl, ho, hb⟩
  obtain ⟨aa, ac, rfl, _⟩ := ho.at
  rw [show ([] : List Fr).length = 0 from rfl]
  have HBB := Lib.hid hb
  clear ho hb
  go_wp2_with fail
  refine (fixed_any _).mono ?_
  rintro e w2 ⟨rfl, hb⟩
  replace HBB := Lib.hid (HBB.out.trans (hb.mono HBB.out.size))
  clear hb
  go_wp2
  go_ret
  exact ⟨rfl, HBB.out⟩
set_option maxHeartbeats 16000000 in
set_option maxRecDepth 100000 in
theorem walk4 (a1 A : ByteArray) (x y id : Int) (k : Nat) (w : World) (hx0 : 0 ≤ x) (hx1 : x ≤ 4294967295) (hy0 : 0 ≤ y) (hy1 : y ≤ 65535)
    (m1 : min (a1.size : Int) 4096 = A.size) (u1 : A.size ≤ a1.size) (v1 : A.size ≤ 4096) (y1 : a1.extract 0 A.size = A) (w1 : a1.size ≤ maxLen) (hk : 1 + y % 1000 = (k : Int)) (hid : 1 + x = id) (hg : Good A id k) (h0 : Hid (A.size ≠ 0)) (h16 : Hid (16 < many A.size k)) :
    Calls Try.prog 6 #[.string a1, .int .u32 x, .int .u16 y] w fun e w' => e = .returned (.bool true) ∧ Below w.heap.size w w' := by
  have HG := Lib.hid hg
  have HA : Hid (A.size ≤ 1000000) := Lib.hid (by omega)
  have n1 : (if (4096 : Int) < (a1.size : Int) then (4096 : Int) else (a1.size : Int)) = (A.size : Int) := by rw [← m1]; omega
  have hk1 : (1 : Int) ≤ k := by have := hg.k1; omega
  have hk2 : (k : Int) ≤ 1000 := by have := hg.k2; omega
  have hk0 : ((k : Int) == 0) = false := by simp; omega
  unfold maxLen at w1
  have HCUT : Hid (cutF A id k = ([], 4)) := Lib.hid (cut_many hg h0.out h16.out)
  have hquo := many_quo2 A.size k hg.k1
  obtain ⟨m, hm⟩ : ∃ m, many A.size k = m := ⟨_, rfl⟩
  have HM : Hid (16 < m) := Lib.hid (by rw [← hm]; exact h16.out)
  rw [hm] at hquo
  have hmb : (m : Int) ≤ 4096 := by
    have := many_le A.size k hg.k1
    rw [hm] at this
    omega
  have hmc : (0 : Int) ≤ (m : Int) := by omega
  have d1 : decide (16 < m) = true := by simpa using HM.out
  have d2 : decide ((16 : Int) < (m : Int)) = true := by have := HM.out; simp; omega
  clear hm
  go_enter Try.func6, Try.ntmps6
  go_wp2_with fail
  refine (cut_l A id k _ HA.out [] 4 4 HCUT.out rfl).mono ?_
  rintro e wb ⟨v, rfl, ho, hb⟩
  obtain ⟨aa, ac, rfl, _⟩ := ho.at
  rw [show ([] : List Fr).length = 0 from rfl]
  have HBB := Lib.hid hb
  clear ho hb
  go_wp2_with fail
  refine (fixed_any _).mono ?_
  rintro e w2 ⟨rfl, hb⟩
  replace HBB := Lib.hid (HBB.out.trans (hb.mono HBB.out.size))
  clear hb
  go_wp2
  go_ret
  exact ⟨rfl, HBB.out⟩
set_option maxHeartbeats 16000000 in
set_option maxRecDepth 100000 in
theorem walkP (a1 A : ByteArray) (x y id : Int) (k : Nat) (w : World) (hx0 : 0 ≤ x) (hx1 : x ≤ 4294967295) (hy0 : 0 ≤ y) (hy1 : y ≤ 65535)
    (m1 : min (a1.size : Int) 4096 = A.size) (u1 : A.size ≤ a1.size) (v1 : A.size ≤ 4096) (y1 : a1.extract 0 A.size = A) (w1 : a1.size ≤ maxLen) (hk : 1 + y % 1000 = (k : Int)) (hid : 1 + x = id) (hg : Good A id k) (m : Nat) (hc : Hid (Cutd A id k m)) :
    Calls Try.prog 6 #[.string a1, .int .u32 x, .int .u16 y] w fun e w' => e = .returned (.bool true) ∧ Below w.heap.size w w' := by
  have HG := Lib.hid hg
  have HA : Hid (A.size ≤ 1000000) := Lib.hid (by omega)
  have n1 : (if (4096 : Int) < (a1.size : Int) then (4096 : Int) else (a1.size : Int)) = (A.size : Int) := by rw [← m1]; omega
  have hk1 : (1 : Int) ≤ k := by have := hg.k1; omega
  have hk2 : (k : Int) ≤ 1000 := by have := hg.k2; omega
  have hk0 : ((k : Int) == 0) = false := by simp; omega
  unfold maxLen at w1
  have HCUT : Hid (cutF A id k = (parts A id k m, 0)) := Lib.hid (by
    have := cut_parts hg hc.out.s1 (by rw [hc.out.hm]; have := hc.out.m2; omega)
    rw [hc.out.hm] at this; exact this)
  have hquo := many_quo2 A.size k hg.k1
  rw [hc.out.hm] at hquo
  have hm1 : (1 : Int) ≤ (m : Int) := by have := hc.out.m1; omega
  have hm2 : (m : Int) ≤ 16 := by have := hc.out.m2; omega
  have d1 : decide (m < 1) = false := by simp; omega
  have d2 : decide (16 < m) = false := by simp; omega
  have d3 : decide ((m : Int) < 1) = false := by simp; omega
  have d4 : decide ((16 : Int) < (m : Int)) = false := by simp; omega
  have d5 : ((m : Int) != (m : Int)) = false := by simp
  go_enter Try.func6, Try.ntmps6
  go_wp2_with fail
  refine (cut_l A id k _ HA.out (parts A id k m) 0 0 HCUT.out rfl).mono ?_
  rintro e wb ⟨v, rfl, ho, hb⟩
  obtain ⟨aa, ac, rfl, hr⟩ := ho.at
  rw [parts_len]
  have HR0 := Lib.hid hr
  have HB0 := Lib.hid hb
  clear ho hb hr
  go_wp2_with fail
  clear hquo d1 d2 d3 d4 d5 hk0 hy0 hy1 m1 u1 y1 w1 n1 hk
  go_loopw [11] (fun i wr => ∃ j : Nat, j ≤ m ∧ i = .int .i64 j ∧ Hid (RowF wr aa ac (parts A id k m)) ∧ Hid (Below w.heap.size w wr)) (fun i _ => m - (intOf i).toNat)
  case atStart => exact ⟨0, Nat.zero_le _, rfl, HR0, HB0⟩
  case round =>
    clear HR0 HB0
    obtain ⟨j, hj, rfl, HR, HBB⟩ := hrel
    by_cases hlt : j < m
    · have hlt' : (j : Int) < (m : Int) := by omega
      have e1 : decide (j < m) = true := by simpa using hlt
      obtain ⟨bk, off, hqa, c0, c1, c2, c3⟩ := frow_cell HR.out (j := j) (by rw [parts_len]; exact hlt)
      subst hqa
      rw [parts_getD _ _ _ _ _ hlt] at c0 c1 c2 c3
      obtain ⟨px, hpx⟩ : ∃ t, (partAt A id k m j).s = t := ⟨_, rfl⟩
      have c0' : wr.cell? ⟨bk, off + j * 4, none⟩ = some (.int .u64 id) := c0
      have c1' : wr.cell? ⟨bk, off + j * 4 + 1, none⟩ = some (.int .i64 (j : Int)) := c1
      have c2' : wr.cell? ⟨bk, off + j * 4 + 2, none⟩ = some (.int .i64 (m : Int)) := c2
      have c3' : wr.cell? ⟨bk, off + j * 4 + 3, none⟩ = some (.string px) := by rw [c3, hpx]
      clear c0 c1 c2 c3
      have hle := hc.out.le hlt
      have hlt2 := hc.out.lt hlt
      have hps := part_size A id k m j
      rw [hpx] at hle hps
      have HRT : Hid (rightF ⟨id, j, m, px⟩ = true) := Lib.hid (by rw [← hpx]; exact hc.out.right hlt)
      have HPS : Hid (px.size ≤ maxLen) := Lib.hid (by unfold maxLen; omega)
      obtain ⟨p, hp⟩ : ∃ p, j * k = p := ⟨_, rfl⟩
      have hpx2 : A.extract p (min A.size (p + k)) = px := by rw [← hpx, ← hp]; rfl
      rw [hp] at hlt2 hps
      obtain ⟨q0, hq0⟩ : ∃ q, min A.size (p + k) = q := ⟨_, rfl⟩
      rw [hq0] at hpx2 hps
      have hmul : (j : Int) * (k : Int) = (p : Int) := by rw [← hp]; exact (Int.natCast_mul j k).symm
      have hp2 : (p : Int) ≤ 4096 := by omega
      have g0 : min (A.size : Int) ((p : Int) + (k : Int)) = (q0 : Int) := by omega
      have g1 : (if (p : Int) + (k : Int) < (A.size : Int) then (p : Int) + (k : Int) else (A.size : Int)) = (q0 : Int) := by split <;> omega
      have hq1 : (p : Int) ≤ (q0 : Int) := by omega
      have hq2 : (q0 : Int) ≤ (A.size : Int) := by omega
      have hne : (px.toList != px.toList) = false := by simp
      have hn0 : (id != id) = false := by simp
      have hn1 : ((j : Int) != (j : Int)) = false := by simp
      have hn2 : ((m : Int) != (m : Int)) = false := by simp
      have hwx : IntKind.u64.wrap x = x := wrap_u64 hx0 (by omega)
      have hwid : IntKind.u64.wrap id = id := wrap_u64 (by omega) (by omega)
      have hwp : IntKind.i64.wrap (p : Int) = (p : Int) := i64_small2 (by omega) (by omega)
      have hwpk : IntKind.i64.wrap ((p : Int) + (k : Int)) = (p : Int) + (k : Int) := i64_small2 (by omega) (by omega)
      have HJ := Lib.hid hlt
      clear hlt hj hpx hle hlt2 hps hp hq0
      go_wp2_with fail
      clear c0' c1' c2' c3'
      obtain ⟨u, hu⟩ : ∃ u, u = wr.alloc (.cells #[.int .u64 id, .int .i64 (j : Int), .int .i64 (m : Int), .string px] 26) := ⟨_, rfl⟩
      have hb : Below wr.heap.size wr u := by rw [hu]; exact below_alloc _ _
      obtain ⟨q, hq⟩ : ∃ q, q = wr.heap.size := ⟨_, rfl⟩
      have HF : Hid (FrAt 26 u q ⟨id, j, m, px⟩) := Lib.hid (by rw [hu, hq]; exact heap_alloc_new wr _)
      replace HBB := Lib.hid (HBB.out.trans (hb.mono HBB.out.size))
      replace HR := Lib.hid (RowF.below HR.out hb)
      rw [← hu, ← hq]
      clear hb hu hq
      refine wp_region_held_drew (S := fun u => FrAt 26 u q ⟨id, j, m, px⟩) (by kernel_rfl) HF.out.drewn (fun hHeld => ?_)
      replace HBB := Lib.hid (below_drewn HBB.out)
      replace HR := Lib.hid (RowF.below HR.out (drew_below _))
      clear HF
      refine wpAnyH_take (i := 0) (oi := ?o1) (v := ?v1) ?i1 (by kernel_rfl) (by kernel_rfl) (by kernel_rfl) ?q1 (Or.inl ⟨?w1, ?y1⟩) (by assumption) ?r1
      case' i1 => simp only [List.getElem?_toArray, List.getElem?_cons_succ, List.getElem?_cons_zero]
      case i1 => rfl
      case q1 => exact fun _ _ _ h => h
      case w1 => rfl
      case y1 => (intro w hSw; go_simp) <;> with_reducible rfl
      try simp only [Act.put, List.setIfInBounds_toArray, List.set_cons_zero, List.set_cons_succ]
      refine wpAnyH_take (i := 1) (oi := ?o2) (v := ?v2) ?i2 (by kernel_rfl) (by kernel_rfl) (by kernel_rfl) ?q2 (Or.inl ⟨?w2, ?y2⟩) (by assumption) ?r2
      case' i2 => simp only [List.getElem?_toArray, List.getElem?_cons_succ, List.getElem?_cons_zero]
      case i2 => rfl
      case q2 => exact fun _ _ _ h => h
      case w2 => rfl
      case y2 => (intro w hSw; obtain ⟨k0, k1, k2, k3⟩ := hSw.cells; dsimp only at k0 k1 k2 k3; go_simp) <;> with_reducible rfl
      try simp only [Act.put, List.setIfInBounds_toArray, List.set_cons_zero, List.set_cons_succ]
      refine wpAnyH_take (i := 2) (oi := ?o3) (v := ?v3) ?i3 (by kernel_rfl) (by kernel_rfl) (by kernel_rfl) ?q3 (Or.inl ⟨?w3, ?y3⟩) (by assumption) ?r3
      case' i3 => simp only [List.getElem?_toArray, List.getElem?_cons_succ, List.getElem?_cons_zero]
      case i3 => rfl
      case q3 => exact fun _ _ _ h => h
      case w3 => rfl
      case y3 => (intro w hSw; go_simp) <;> with_reducible rfl
      try simp only [Act.put, List.setIfInBounds_toArray, List.set_cons_zero, List.set_cons_succ]
      refine wpAnyH_take (i := 3) (oi := ?o4) (v := ?v4) ?i4 (by kernel_rfl) (by kernel_rfl) (by kernel_rfl) ?q4 (Or.inl ⟨?w4, ?y4⟩) (by assumption) ?r4
      case' i4 => simp only [List.getElem?_toArray, List.getElem?_cons_succ, List.getElem?_cons_zero]
      case i4 => rfl
      case q4 => exact fun _ _ _ h => h
      case w4 => rfl
      case y4 => (intro w hSw; go_simp) <;> with_reducible rfl
      try simp only [Act.put, List.setIfInBounds_toArray, List.set_cons_zero, List.set_cons_succ]
      refine wpAnyH_take (i := 4) (oi := ?o5) (v := ?v5) ?i5 (by kernel_rfl) (by kernel_rfl) (by kernel_rfl) ?q5 (Or.inl ⟨?w5, ?y5⟩) (by assumption) ?r5
      case' i5 => simp only [List.getElem?_toArray, List.getElem?_cons_succ, List.getElem?_cons_zero]
      case i5 => rfl
      case q5 => exact fun _ _ _ h => h
      case w5 => rfl
      case y5 => (intro w hSw; go_simp) <;> with_reducible rfl
      try simp only [Act.put, List.setIfInBounds_toArray, List.set_cons_zero, List.set_cons_succ]
      refine wpAnyH_take (i := 5) (oi := ?o6) (v := ?v6) ?i6 (by kernel_rfl) (by kernel_rfl) (by kernel_rfl) ?q6 (Or.inl ⟨?w6, ?y6⟩) (by assumption) ?r6
      case' i6 => simp only [List.getElem?_toArray, List.getElem?_cons_succ, List.getElem?_cons_zero]
      case i6 => rfl
      case q6 => exact fun _ _ _ h => h
      case w6 => rfl
      case y6 => (intro w hSw; go_simp) <;> with_reducible rfl
      try simp only [Act.put, List.setIfInBounds_toArray, List.set_cons_zero, List.set_cons_succ]
      refine wpAnyH_take (i := 6) (oi := ?o7) (v := ?v7) ?i7 (by kernel_rfl) (by kernel_rfl) (by kernel_rfl) ?q7 (Or.inl ⟨?w7, ?y7⟩) (by assumption) ?r7
      case' i7 => simp only [List.getElem?_toArray, List.getElem?_cons_succ, List.getElem?_cons_zero]
      case i7 => rfl
      case q7 => exact fun _ _ _ h => h
      case w7 => rfl
      case y7 => (intro w hSw; go_simp) <;> with_reducible rfl
      try simp only [Act.put, List.setIfInBounds_toArray, List.set_cons_zero, List.set_cons_succ]
      refine wpAnyH_take (i := 7) (oi := ?o8) (v := ?v8) ?i8 (by kernel_rfl) (by kernel_rfl) (by kernel_rfl) ?q8 (Or.inl ⟨?w8, ?y8⟩) (by assumption) ?r8
      case' i8 => simp only [List.getElem?_toArray, List.getElem?_cons_succ, List.getElem?_cons_zero]
      case i8 => rfl
      case q8 => exact fun _ _ _ h => h
      case w8 => rfl
      case y8 => (intro w hSw; go_simp) <;> with_reducible rfl
      try simp only [Act.put, List.setIfInBounds_toArray, List.set_cons_zero, List.set_cons_succ]
      refine wpAnyH_take (i := 8) (oi := ?o9) (v := ?v9) ?i9 (by kernel_rfl) (by kernel_rfl) (by kernel_rfl) ?q9 (Or.inl ⟨?w9, ?y9⟩) (by assumption) ?r9
      case' i9 => simp only [List.getElem?_toArray, List.getElem?_cons_succ, List.getElem?_cons_zero]
      case i9 => rfl
      case q9 => exact fun _ _ _ h => h
      case w9 => rfl
      case y9 => (intro w hSw; obtain ⟨k0, k1, k2, k3⟩ := hSw.cells; dsimp only at k0 k1 k2 k3; go_simp) <;> with_reducible rfl
      try simp only [Act.put, List.setIfInBounds_toArray, List.set_cons_zero, List.set_cons_succ]
      refine wpAnyH_take (i := 9) (oi := ?o10) (v := ?v10) ?i10 (by kernel_rfl) (by kernel_rfl) (by kernel_rfl) ?q10 (Or.inl ⟨?w10, ?y10⟩) (by assumption) ?r10
      case' i10 => simp only [List.getElem?_toArray, List.getElem?_cons_succ, List.getElem?_cons_zero]
      case i10 => rfl
      case q10 => exact fun _ _ _ h => h
      case w10 => rfl
      case y10 => (intro w hSw; go_simp) <;> with_reducible rfl
      try simp only [Act.put, List.setIfInBounds_toArray, List.set_cons_zero, List.set_cons_succ]
      refine wpAnyH_take (i := 10) (oi := ?o11) (v := ?v11) ?i11 (by kernel_rfl) (by kernel_rfl) (by kernel_rfl) ?q11 (Or.inl ⟨?w11, ?y11⟩) (by assumption) ?r11
      case' i11 => simp only [List.getElem?_toArray, List.getElem?_cons_succ, List.getElem?_cons_zero]
      case i11 => rfl
      case q11 => exact fun _ _ _ h => h
      case w11 => rfl
      case y11 => (intro w hSw; go_simp) <;> with_reducible rfl
      try simp only [Act.put, List.setIfInBounds_toArray, List.set_cons_zero, List.set_cons_succ]
      refine wpAnyH_take (i := 11) (oi := ?o12) (v := ?v12) ?i12 (by kernel_rfl) (by kernel_rfl) (by kernel_rfl) ?q12 (Or.inl ⟨?w12, ?y12⟩) (by assumption) ?r12
      case' i12 => simp only [List.getElem?_toArray, List.getElem?_cons_succ, List.getElem?_cons_zero]
      case i12 => rfl
      case q12 => exact fun _ _ _ h => h
      case w12 => rfl
      case y12 => (intro w hSw; go_simp) <;> with_reducible rfl
      try simp only [Act.put, List.setIfInBounds_toArray, List.set_cons_zero, List.set_cons_succ]
      refine wpAnyH_take (i := 12) (oi := ?o13) (v := ?v13) ?i13 (by kernel_rfl) (by kernel_rfl) (by kernel_rfl) ?q13 (Or.inl ⟨?w13, ?y13⟩) (by assumption) ?r13
      case' i13 => simp only [List.getElem?_toArray, List.getElem?_cons_succ, List.getElem?_cons_zero]
      case i13 => rfl
      case q13 => exact fun _ _ _ h => h
      case w13 => rfl
      case y13 => (intro w hSw; go_simp) <;> with_reducible rfl
      try simp only [Act.put, List.setIfInBounds_toArray, List.set_cons_zero, List.set_cons_succ]
      refine wpAnyH_take (i := 13) (oi := ?o14) (v := ?v14) ?i14 (by kernel_rfl) (by kernel_rfl) (by kernel_rfl) ?q14 (Or.inl ⟨?w14, ?y14⟩) (by assumption) ?r14
      case' i14 => simp only [List.getElem?_toArray, List.getElem?_cons_succ, List.getElem?_cons_zero]
      case i14 => rfl
      case q14 => exact fun _ _ _ h => h
      case w14 => rfl
      case y14 => (intro w hSw; go_simp) <;> with_reducible rfl
      try simp only [Act.put, List.setIfInBounds_toArray, List.set_cons_zero, List.set_cons_succ]
      refine wpAnyH_take (i := 14) (oi := ?o15) (v := ?v15) ?i15 (by kernel_rfl) (by kernel_rfl) (by kernel_rfl) ?q15 (Or.inl ⟨?w15, ?y15⟩) (by assumption) ?r15
      case' i15 => simp only [List.getElem?_toArray, List.getElem?_cons_succ, List.getElem?_cons_zero]
      case i15 => rfl
      case q15 => exact fun _ _ _ h => h
      case w15 => rfl
      case y15 => (intro w hSw; obtain ⟨k0, k1, k2, k3⟩ := hSw.cells; dsimp only at k0 k1 k2 k3; go_simp) <;> with_reducible rfl
      try simp only [Act.put, List.setIfInBounds_toArray, List.set_cons_zero, List.set_cons_succ]
      refine wpAnyH_take (i := 15) (oi := ?o16) (v := ?v16) ?i16 (by kernel_rfl) (by kernel_rfl) (by kernel_rfl) ?q16 (Or.inl ⟨?w16, ?y16⟩) (by assumption) ?r16
      case' i16 => simp only [List.getElem?_toArray, List.getElem?_cons_succ, List.getElem?_cons_zero]
      case i16 => rfl
      case q16 => exact fun _ _ _ h => h
      case w16 => rfl
      case y16 => (intro w hSw; go_simp) <;> with_reducible rfl
      try simp only [Act.put, List.setIfInBounds_toArray, List.set_cons_zero, List.set_cons_succ]
      refine wpAnyH_take (i := 16) (oi := ?o17) (v := ?v17) ?i17 (by kernel_rfl) (by kernel_rfl) (by kernel_rfl) ?q17 (Or.inl ⟨?w17, ?y17⟩) (by assumption) ?r17
      case' i17 => simp only [List.getElem?_toArray, List.getElem?_cons_succ, List.getElem?_cons_zero]
      case i17 => rfl
      case q17 => exact fun _ _ _ h => h
      case w17 => rfl
      case y17 => (intro w hSw; go_simp) <;> with_reducible rfl
      try simp only [Act.put, List.setIfInBounds_toArray, List.set_cons_zero, List.set_cons_succ]
      refine wpAnyH_take (i := 17) (oi := ?o18) (v := ?v18) ?i18 (by kernel_rfl) (by kernel_rfl) (by kernel_rfl) ?q18 (Or.inl ⟨?w18, ?y18⟩) (by assumption) ?r18
      case' i18 => simp only [List.getElem?_toArray, List.getElem?_cons_succ, List.getElem?_cons_zero]
      case i18 => rfl
      case q18 => exact fun _ _ _ h => h
      case w18 => rfl
      case y18 => (intro w hSw; go_simp) <;> with_reducible rfl
      try simp only [Act.put, List.setIfInBounds_toArray, List.set_cons_zero, List.set_cons_succ]
      refine wpAnyH_take (i := 18) (oi := ?o19) (v := ?v19) ?i19 (by kernel_rfl) (by kernel_rfl) (by kernel_rfl) ?q19 (Or.inl ⟨?w19, ?y19⟩) (by assumption) ?r19
      case' i19 => simp only [List.getElem?_toArray, List.getElem?_cons_succ, List.getElem?_cons_zero]
      case i19 => rfl
      case q19 => exact fun _ _ _ h => h
      case w19 => rfl
      case y19 => (intro w hSw; go_simp) <;> with_reducible rfl
      try simp only [Act.put, List.setIfInBounds_toArray, List.set_cons_zero, List.set_cons_succ]
      refine wpAnyH_take (i := 19) (oi := ?o20) (v := ?v20) ?i20 (by kernel_rfl) (by kernel_rfl) (by kernel_rfl) ?q20 (Or.inl ⟨?w20, ?y20⟩) (by assumption) ?r20
      case' i20 => simp only [List.getElem?_toArray, List.getElem?_cons_succ, List.getElem?_cons_zero]
      case i20 => rfl
      case q20 => exact fun _ _ _ h => h
      case w20 => rfl
      case y20 => (intro w hSw; obtain ⟨k0, k1, k2, k3⟩ := hSw.cells; dsimp only at k0 k1 k2 k3; go_simp) <;> with_reducible rfl
      try simp only [Act.put, List.setIfInBounds_toArray, List.set_cons_zero, List.set_cons_succ]
      refine wpAnyH_ready (rs := [20]) (by kernel_rfl) (by simp) ?_
      refine AllReadyH.cons (o := ?o21) ?i21 (fun K' hK => ?_) AllReadyH.nil
      case' i21 => simp only [List.getElem?_toArray, List.getElem?_cons_succ, List.getElem?_cons_zero]
      case i21 => rfl
      go_simp
      go_at_call 20
      refine (right_f id j m px _ HPS.out true HRT).mono ?_
      rintro e w' ⟨rfl, hb⟩
      have HBB' := Lib.hid (HBB.out.trans (hb.mono HBB.out.size))
      have hHeld' : FrAt 26 w' q ⟨id, j, m, px⟩ := hHeld.below hb
      replace HR := Lib.hid (RowF.below HR.out hb)
      clear HBB hb
      have HBB := HBB'
      clear HBB'
      go_wp2_with fail
      refine hK.out _ _ hHeld' (fun _ => ?_)
      clear hK K' hHeld
      have hHeld := hHeld'
      clear hHeld'
      try simp only [Act.put, List.setIfInBounds_toArray, List.set_cons_zero, List.set_cons_succ]
      refine wpAnyH_take (i := 21) (oi := ?o22) (v := ?v22) ?i22 (by kernel_rfl) (by kernel_rfl) (by kernel_rfl) ?q22 (Or.inl ⟨?w22, ?y22⟩) (by assumption) ?r22
      case' i22 => simp only [List.getElem?_toArray, List.getElem?_cons_succ, List.getElem?_cons_zero]
      case i22 => rfl
      case q22 => exact fun _ _ _ h => h
      case w22 => rfl
      case y22 => (intro w hSw; go_simp) <;> with_reducible rfl
      try simp only [Act.put, List.setIfInBounds_toArray, List.set_cons_zero, List.set_cons_succ]
      refine wpAnyH_take (i := 22) (oi := ?o23) (v := ?v23) ?i23 (by kernel_rfl) (by kernel_rfl) (by kernel_rfl) ?q23 (Or.inl ⟨?w23, ?y23⟩) (by assumption) ?r23
      case' i23 => simp only [List.getElem?_toArray, List.getElem?_cons_succ, List.getElem?_cons_zero]
      case i23 => rfl
      case q23 => exact fun _ _ _ h => h
      case w23 => rfl
      case y23 => (intro w hSw; go_simp) <;> with_reducible rfl
      try simp only [Act.put, List.setIfInBounds_toArray, List.set_cons_zero, List.set_cons_succ]
      refine wpAnyH_take (i := 23) (oi := ?o24) (v := ?v24) ?i24 (by kernel_rfl) (by kernel_rfl) (by kernel_rfl) ?q24 (Or.inl ⟨?w24, ?y24⟩) (by assumption) ?r24
      case' i24 => simp only [List.getElem?_toArray, List.getElem?_cons_succ, List.getElem?_cons_zero]
      case i24 => rfl
      case q24 => exact fun _ _ _ h => h
      case w24 => rfl
      case y24 => (intro w hSw; go_simp) <;> with_reducible rfl
      try simp only [Act.put, List.setIfInBounds_toArray, List.set_cons_zero, List.set_cons_succ]
      refine wpAnyH_take (i := 24) (oi := ?o25) (v := ?v25) ?i25 (by kernel_rfl) (by kernel_rfl) (by kernel_rfl) ?q25 (Or.inl ⟨?w25, ?y25⟩) (by assumption) ?r25
      case' i25 => simp only [List.getElem?_toArray, List.getElem?_cons_succ, List.getElem?_cons_zero]
      case i25 => rfl
      case q25 => exact fun _ _ _ h => h
      case w25 => rfl
      case y25 => (intro w hSw; go_simp) <;> with_reducible rfl
      try simp only [Act.put, List.setIfInBounds_toArray, List.set_cons_zero, List.set_cons_succ]
      refine wpAnyH_take (i := 25) (oi := ?o26) (v := ?v26) ?i26 (by kernel_rfl) (by kernel_rfl) (by kernel_rfl) ?q26 (Or.inl ⟨?w26, ?y26⟩) (by assumption) ?r26
      case' i26 => simp only [List.getElem?_toArray, List.getElem?_cons_succ, List.getElem?_cons_zero]
      case i26 => rfl
      case q26 => exact fun _ _ _ h => h
      case w26 => rfl
      case y26 => (intro w hSw; obtain ⟨k0, k1, k2, k3⟩ := hSw.cells; dsimp only at k0 k1 k2 k3; go_simp) <;> with_reducible rfl
      try simp only [Act.put, List.setIfInBounds_toArray, List.set_cons_zero, List.set_cons_succ]
      refine wpAnyH_take (i := 26) (oi := ?o27) (v := ?v27) ?i27 (by kernel_rfl) (by kernel_rfl) (by kernel_rfl) ?q27 (Or.inl ⟨?w27, ?y27⟩) (by assumption) ?r27
      case' i27 => simp only [List.getElem?_toArray, List.getElem?_cons_succ, List.getElem?_cons_zero]
      case i27 => rfl
      case q27 => exact fun _ _ _ h => h
      case w27 => rfl
      case y27 => (intro w hSw; go_simp) <;> with_reducible rfl
      try simp only [Act.put, List.setIfInBounds_toArray, List.set_cons_zero, List.set_cons_succ]
      refine wpAnyH_take (i := 27) (oi := ?o28) (v := ?v28) ?i28 (by kernel_rfl) (by kernel_rfl) (by kernel_rfl) ?q28 (Or.inl ⟨?w28, ?y28⟩) (by assumption) ?r28
      case' i28 => simp only [List.getElem?_toArray, List.getElem?_cons_succ, List.getElem?_cons_zero]
      case i28 => rfl
      case q28 => exact fun _ _ _ h => h
      case w28 => rfl
      case y28 => (intro w hSw; go_simp) <;> with_reducible rfl
      try simp only [Act.put, List.setIfInBounds_toArray, List.set_cons_zero, List.set_cons_succ]
      refine wpAnyH_take (i := 28) (oi := ?o29) (v := ?v29) ?i29 (by kernel_rfl) (by kernel_rfl) (by kernel_rfl) ?q29 (Or.inl ⟨?w29, ?y29⟩) (by assumption) ?r29
      case' i29 => simp only [List.getElem?_toArray, List.getElem?_cons_succ, List.getElem?_cons_zero]
      case i29 => rfl
      case q29 => exact fun _ _ _ h => h
      case w29 => rfl
      case y29 => (intro w hSw; go_simp) <;> with_reducible rfl
      try simp only [Act.put, List.setIfInBounds_toArray, List.set_cons_zero, List.set_cons_succ]
      refine wpAnyH_take (i := 29) (oi := ?o30) (v := ?v30) ?i30 (by kernel_rfl) (by kernel_rfl) (by kernel_rfl) ?q30 (Or.inl ⟨?w30, ?y30⟩) (by assumption) ?r30
      case' i30 => simp only [List.getElem?_toArray, List.getElem?_cons_succ, List.getElem?_cons_zero]
      case i30 => rfl
      case q30 => exact fun _ _ _ h => h
      case w30 => rfl
      case y30 => (intro w hSw; go_simp) <;> with_reducible rfl
      try simp only [Act.put, List.setIfInBounds_toArray, List.set_cons_zero, List.set_cons_succ]
      refine wpAnyH_take (i := 30) (oi := ?o31) (v := ?v31) ?i31 (by kernel_rfl) (by kernel_rfl) (by kernel_rfl) ?q31 (Or.inl ⟨?w31, ?y31⟩) (by assumption) ?r31
      case' i31 => simp only [List.getElem?_toArray, List.getElem?_cons_succ, List.getElem?_cons_zero]
      case i31 => rfl
      case q31 => exact fun _ _ _ h => h
      case w31 => rfl
      case y31 => (intro w hSw; go_simp) <;> with_reducible rfl
      try simp only [Act.put, List.setIfInBounds_toArray, List.set_cons_zero, List.set_cons_succ]
      refine wpAnyH_take (i := 31) (oi := ?o32) (v := ?v32) ?i32 (by kernel_rfl) (by kernel_rfl) (by kernel_rfl) ?q32 (Or.inl ⟨?w32, ?y32⟩) (by assumption) ?r32
      case' i32 => simp only [List.getElem?_toArray, List.getElem?_cons_succ, List.getElem?_cons_zero]
      case i32 => rfl
      case q32 => exact fun _ _ _ h => h
      case w32 => rfl
      case y32 => (intro w hSw; go_simp) <;> with_reducible rfl
      try simp only [Act.put, List.setIfInBounds_toArray, List.set_cons_zero, List.set_cons_succ]
      refine wpAnyH_take (i := 32) (oi := ?o33) (v := ?v33) ?i33 (by kernel_rfl) (by kernel_rfl) (by kernel_rfl) ?q33 (Or.inl ⟨?w33, ?y33⟩) (by assumption) ?r33
      case' i33 => simp only [List.getElem?_toArray, List.getElem?_cons_succ, List.getElem?_cons_zero]
      case i33 => rfl
      case q33 => exact fun _ _ _ h => h
      case w33 => rfl
      case y33 => (intro w hSw; go_simp) <;> with_reducible rfl
      try simp only [Act.put, List.setIfInBounds_toArray, List.set_cons_zero, List.set_cons_succ]
      refine wpAnyH_take (i := 33) (oi := ?o34) (v := ?v34) ?i34 (by kernel_rfl) (by kernel_rfl) (by kernel_rfl) ?q34 (Or.inl ⟨?w34, ?y34⟩) (by assumption) ?r34
      case' i34 => simp only [List.getElem?_toArray, List.getElem?_cons_succ, List.getElem?_cons_zero]
      case i34 => rfl
      case q34 => exact fun _ _ _ h => h
      case w34 => rfl
      case y34 => (intro w hSw; go_simp) <;> with_reducible rfl
      try simp only [Act.put, List.setIfInBounds_toArray, List.set_cons_zero, List.set_cons_succ]
      refine wpAnyH_take (i := 34) (oi := ?o35) (v := ?v35) ?i35 (by kernel_rfl) (by kernel_rfl) (by kernel_rfl) ?q35 (Or.inl ⟨?w35, ?y35⟩) (by assumption) ?r35
      case' i35 => simp only [List.getElem?_toArray, List.getElem?_cons_succ, List.getElem?_cons_zero]
      case i35 => rfl
      case q35 => exact fun _ _ _ h => h
      case w35 => rfl
      case y35 => (intro w hSw; go_simp) <;> with_reducible rfl
      try simp only [Act.put, List.setIfInBounds_toArray, List.set_cons_zero, List.set_cons_succ]
      refine wpAnyH_take (i := 35) (oi := ?o36) (v := ?v36) ?i36 (by kernel_rfl) (by kernel_rfl) (by kernel_rfl) ?q36 (Or.inl ⟨?w36, ?y36⟩) (by assumption) ?r36
      case' i36 => simp only [List.getElem?_toArray, List.getElem?_cons_succ, List.getElem?_cons_zero]
      case i36 => rfl
      case q36 => exact fun _ _ _ h => h
      case w36 => rfl
      case y36 => (intro w hSw; go_simp) <;> with_reducible rfl
      try simp only [Act.put, List.setIfInBounds_toArray, List.set_cons_zero, List.set_cons_succ]
      refine wpAnyH_take (i := 36) (oi := ?o37) (v := ?v37) ?i37 (by kernel_rfl) (by kernel_rfl) (by kernel_rfl) ?q37 (Or.inl ⟨?w37, ?y37⟩) (by assumption) ?r37
      case' i37 => simp only [List.getElem?_toArray, List.getElem?_cons_succ, List.getElem?_cons_zero]
      case i37 => rfl
      case q37 => exact fun _ _ _ h => h
      case w37 => rfl
      case y37 => (intro w hSw; go_simp) <;> with_reducible rfl
      try simp only [Act.put, List.setIfInBounds_toArray, List.set_cons_zero, List.set_cons_succ]
      refine wpAnyH_take (i := 37) (oi := ?o38) (v := ?v38) ?i38 (by kernel_rfl) (by kernel_rfl) (by kernel_rfl) ?q38 (Or.inl ⟨?w38, ?y38⟩) (by assumption) ?r38
      case' i38 => simp only [List.getElem?_toArray, List.getElem?_cons_succ, List.getElem?_cons_zero]
      case i38 => rfl
      case q38 => exact fun _ _ _ h => h
      case w38 => rfl
      case y38 => (intro w hSw; go_simp) <;> with_reducible rfl
      try simp only [Act.put, List.setIfInBounds_toArray, List.set_cons_zero, List.set_cons_succ]
      refine wpAnyH_take (i := 38) (oi := ?o39) (v := ?v39) ?i39 (by kernel_rfl) (by kernel_rfl) (by kernel_rfl) ?q39 (Or.inl ⟨?w39, ?y39⟩) (by assumption) ?r39
      case' i39 => simp only [List.getElem?_toArray, List.getElem?_cons_succ, List.getElem?_cons_zero]
      case i39 => rfl
      case q39 => exact fun _ _ _ h => h
      case w39 => rfl
      case y39 => (intro w hSw; go_simp) <;> with_reducible rfl
      try simp only [Act.put, List.setIfInBounds_toArray, List.set_cons_zero, List.set_cons_succ]
      refine wpAnyH_take (i := 39) (oi := ?o40) (v := ?v40) ?i40 (by kernel_rfl) (by kernel_rfl) (by kernel_rfl) ?q40 (Or.inl ⟨?w40, ?y40⟩) (by assumption) ?r40
      case' i40 => simp only [List.getElem?_toArray, List.getElem?_cons_succ, List.getElem?_cons_zero]
      case i40 => rfl
      case q40 => exact fun _ _ _ h => h
      case w40 => rfl
      case y40 => (intro w hSw; go_simp) <;> with_reducible rfl
      try simp only [Act.put, List.setIfInBounds_toArray, List.set_cons_zero, List.set_cons_succ]
      refine wpAnyH_take (i := 40) (oi := ?o41) (v := ?v41) ?i41 (by kernel_rfl) (by kernel_rfl) (by kernel_rfl) ?q41 (Or.inl ⟨?w41, ?y41⟩) (by assumption) ?r41
      case' i41 => simp only [List.getElem?_toArray, List.getElem?_cons_succ, List.getElem?_cons_zero]
      case i41 => rfl
      case q41 => exact fun _ _ _ h => h
      case w41 => rfl
      case y41 => (intro w hSw; go_simp) <;> with_reducible rfl
      try simp only [Act.put, List.setIfInBounds_toArray, List.set_cons_zero, List.set_cons_succ]
      refine wpAnyH_done (by kernel_rfl) ?_ _
      have HBX := HBB
      go_wp2_with fail
      go_roundw
      case rel => exact ⟨j + 1, by have := HJ.out; omega, by go_num, HR, HBB⟩
      case measure => have := HJ.out; simp [intOf]; omega
    · obtain rfl : j = m := by omega
      have e1 : decide (j < j) = false := decide_eq_false (Nat.lt_irrefl _)
      clear hlt hj
      go_wp2_with fail
      refine (fixed_any _).mono ?_
      rintro e w2 ⟨rfl, hb⟩
      replace HBB := Lib.hid (HBB.out.trans (hb.mono HBB.out.size))
      clear hb
      go_wp2
      go_ret
      exact ⟨rfl, HBB.out⟩

theorem walk (a1 : ByteArray) (x y : Int) (w : World) (w1 : a1.size ≤ maxLen) (h0 : (Lit.int .u32 x).wf = true) (h1 : (Lit.int .u16 y).wf = true) :
    Calls Try.prog 6 #[.string a1, .int .u32 x, .int .u16 y] w fun e w' => e = .returned (.bool true) ∧ Below w.heap.size w w' := by
  obtain ⟨A, m1, u1, v1, y1⟩ := slice_facts a1 4096
  have m2 : min (a1.size : Int) 4096 = A.size := m1
  obtain ⟨x0, x1⟩ := u32_range h0
  obtain ⟨y0, y2⟩ := u16_range h1
  obtain ⟨k, hk⟩ : ∃ k : Nat, 1 + y % 1000 = (k : Int) := ⟨(1 + y % 1000).toNat, by omega⟩
  have hg : Good A (1 + x) k := ⟨by omega, by omega, by omega, by omega, v1⟩
  by_cases e0 : A.size = 0
  · exact walk0 a1 A x y _ k w x0 x1 y0 y2 m2 u1 v1 y1 w1 hk rfl hg (Lib.hid e0)
  · by_cases e1 : 16 < many A.size k
    · exact walk4 a1 A x y _ k w x0 x1 y0 y2 m2 u1 v1 y1 w1 hk rfl hg (Lib.hid e0) (Lib.hid e1)
    · exact walkP a1 A x y _ k w x0 x1 y0 y2 m2 u1 v1 y1 w1 hk rfl hg _ (Lib.hid ⟨hg, e0, rfl, by omega⟩)

set_option maxRecDepth 100000 in
theorem lifted (os : Os) (started : os.Started) (H : Type) (enc : TypeId × Value → H) :
    ReturnsInHanded {} Try.checked os 6 .any (Rows.splitSizesSpec.pre6 enc Try.prog Try.f6 Rows.splitSizesRow.domain false) (Rows.splitSizesSpec.post enc Try.prog Try.f6 false true false false) := by
  refine returnsInHanded_of_change (C := Try.checked) own started (by kernel_rfl) Try.func6
    (ChangeSpec.witness6 (enc := enc) (C := Try.checked) false ⟨#[], #[.string ByteArray.empty, .int .u32 0, .int .u16 0], []⟩ 8 (by kernel_rfl) (by kernel_rfl) (by kernel_rfl) (by kernel_rfl)) ?_
  intro W base args ds gs before hval0 hW hcnd _
  have hval : ∀ (j : Nat) t v, Try.f6.params[j]? = some t → args[j]? = some v → Value.okWide Try.prog W .any base t v := hval0
  have hW' := hW
  obtain ⟨p, q, hA0, hV, rfl, hfz, hnd⟩ := hW
  have hA : DataW.TrodAll enc Try.prog W 0 (fun _ => true) true Try.f6.params.toList args.toList ds p := hA0
  rw [Try.params6] at hA hval
  obtain ⟨v0, vs0, d0, ds0, p0, q0, hargs, rfl, rfl, h0, r0⟩ := trodAll_cons hA
  obtain ⟨v1, vs1, d1, ds1, p1, q1, rfl, rfl, rfl, h1, r1⟩ := trodAll_cons r0
  obtain ⟨v2, vs2, d2, ds2, p2, q2, rfl, rfl, rfl, h2, r2⟩ := trodAll_cons r1
  obtain ⟨rfl, rfl, rfl⟩ := trodAll_nil r2
  obtain rfl : args = #[v0, v1, v2] := by cases args; simp_all
  obtain ⟨rfl, rfl⟩ := trodVars_none hV
  obtain ⟨a0, rfl, rfl, rfl, w0⟩ := open_string Try.underlying9 (hval 0 9 v0 rfl rfl) h0
  obtain ⟨a1, rfl, rfl, rfl, w1⟩ := open_int Try.underlying52 (hval 1 52 v1 rfl rfl) h1
  obtain ⟨a2, rfl, rfl, rfl, w2⟩ := open_int Try.underlying53 (hval 2 53 v2 rfl rfl) h2
  clear hA0 hval0
  refine (walk a0 a1 a2 W w0 w1 w2).mono fun e W' ⟨he, bel⟩ => ?_
  subst he
  exact ⟨_, rfl, _, _, _, [], _, [], hW', trodAll_mk1 (shut_bool Try.underlying4 _), (trodAll_cons_mk (shut_string Try.underlying9 w0) (trodAll_cons_mk (shut_int Try.underlying52 w1) (trodAll_cons_mk (shut_int Try.underlying53 w2) trodAll_mk0))), rfl, bel.frame _, fun h => by cases h⟩

theorem over : Rows.splitSizesRow.holds Try.pinned (OpenSpec.ofChange Rows.splitSizesSpec) :=
  OpenClaim.holds_of_wide 6 Try.f6 rfl rfl rfl rfl rfl rfl rfl ⟨rfl, rfl, rfl, rfl, rfl⟩ rfl rfl rfl rfl rfl (by kernel_rfl) Try.func6 (by kernel_rfl)
    (of_decide_eq_true (by kernel_rfl)) (by unfold Func.isWrapper; first | (rw [if_pos (by decide +kernel)]; kernel_rfl) | (rw [if_neg (by decide +kernel)]; exact ⟨rfl, rfl⟩))
    (fun os started H enc _ => lifted os started H enc)

theorem proved : Rows.SplitSizesSaid := over
#print axioms proved
end Go.Proofs.Ytjimkkakcgdgfaa.splitSizes
