/- SplitSwaps: parts in another order, or one of another message, another count, or another place, are not joined. No condition. -/
import Derived.Test.YtjimkkakcgdgfaaRows
import Derived.Test.YtjimkkakcgdgfaaFragO
import Derived.WalkKit
import Derived.ProofKit
import Derived.OpenShut
import Derived.ShutString
import Derived.ChangeOld
import Derived.Below
namespace Go.Proofs.Ytjimkkakcgdgfaa.splitSwaps
open Go.ChangeShapes Go.WideShapes Go.ChangeAt Go.RowKit
open Go.ChangeMaps (open_string shut_string)
open Go.Proofs.Ytjimkkakcgdgfaa
set_option linter.unusedVariables false
set_option linter.unusedSimpArgs false
set_option maxRecDepth 20000

theorem own : ownKnob Try.prog.godebug = none := by kernel_rfl
theorem laidOut : laidOutB Try.prog = true := by kernel_rfl
set_option maxHeartbeats 16000000 in
set_option maxRecDepth 100000 in
theorem walk0 (a1 A : ByteArray) (y z0 z1 z2 : Int) (k : Nat) (w : World) (hy0 : 0 ≤ y) (hy1 : y ≤ 255) (hz00 : 0 ≤ z0) (hz01 : z0 ≤ 255) (hz10 : 0 ≤ z1) (hz11 : z1 ≤ 255) (hz20 : 0 ≤ z2) (hz21 : z2 ≤ 255)
    (m1 : min (a1.size : Int) 1000 = A.size) (u1 : A.size ≤ a1.size) (v1 : A.size ≤ 1000) (y1 : a1.extract 0 A.size = A) (w1 : a1.size ≤ maxLen) (hk : 1 + y = (k : Int)) (hg : Good A 7 k) (h0 : Hid (A.size = 0)) :
    Calls Try.prog 7 #[.string a1, .int .u8 y, .agg #[.int .u8 z0, .int .u8 z1, .int .u8 z2]] w fun e w' => e = .returned (.bool true) ∧ Below w.heap.size w w' := by
  have HG := Lib.hid hg
  have HA : Hid (A.size ≤ 1000000) := Lib.hid (by omega)
  have n1 : (if (1000 : Int) < (a1.size : Int) then (1000 : Int) else (a1.size : Int)) = (A.size : Int) := by rw [← m1]; omega
  have hk1 : (1 : Int) ≤ k := by have := hg.k1; omega
  have hk2 : (k : Int) ≤ 1000 := by have := hg.k2; omega
  unfold maxLen at w1
  have HCUT : Hid (cutF A 7 k = ([], 1)) := Lib.hid (cut_none h0.out)
  go_enter Try.func7, Try.ntmps7
  go_wp2_with fail
  obtain ⟨q5, hq5⟩ : ∃ q, q = w.heap.size := ⟨_, rfl⟩
  obtain ⟨u0, hu0⟩ : ∃ u, u = w.alloc (.cells #[.int .u8 z0, .int .u8 z1, .int .u8 z2] 55) := ⟨_, rfl⟩
  have HARR : Hid (u0.heap[q5]? = some (.cells #[.int .u8 z0, .int .u8 z1, .int .u8 z2] 55 (0, 0))) := Lib.hid (by rw [hu0, hq5]; exact heap_alloc_new w _)
  have HBB : Hid (Below w.heap.size w u0) := Lib.hid (by rw [hu0]; exact below_alloc _ _)
  have HQL : Hid (w.heap.size ≤ q5 ∧ q5 < u0.heap.size) := Lib.hid (by rw [hu0, hq5]; simp)
  rw [← hu0, ← hq5]
  clear hu0 hq5
  refine (cut_l A 7 k _ HA.out [] 1 1 HCUT.out rfl).mono ?_
  rintro e wb ⟨v, rfl, ho, hb⟩
  obtain ⟨aa, ac, rfl, _⟩ := ho.at
  rw [show ([] : List Fr).length = 0 from rfl]
  have HARR2 := Lib.hid ((hb.block _ (blk_lt HARR.out)).trans HARR.out)
  have HBB2 := Lib.hid (HBB.out.trans (hb.mono HBB.out.size))
  clear ho hb HARR HBB
  go_wp2_with fail
  refine (fixed_any _).mono ?_
  rintro e w9 ⟨rfl, hb⟩
  have HBB9 := Lib.hid (HBB2.out.trans (hb.mono HBB2.out.size))
  clear hb
  go_wp2
  go_ret
  exact ⟨rfl, HBB9.out⟩
set_option maxHeartbeats 16000000 in
set_option maxRecDepth 100000 in
theorem walk4 (a1 A : ByteArray) (y z0 z1 z2 : Int) (k : Nat) (w : World) (hy0 : 0 ≤ y) (hy1 : y ≤ 255) (hz00 : 0 ≤ z0) (hz01 : z0 ≤ 255) (hz10 : 0 ≤ z1) (hz11 : z1 ≤ 255) (hz20 : 0 ≤ z2) (hz21 : z2 ≤ 255)
    (m1 : min (a1.size : Int) 1000 = A.size) (u1 : A.size ≤ a1.size) (v1 : A.size ≤ 1000) (y1 : a1.extract 0 A.size = A) (w1 : a1.size ≤ maxLen) (hk : 1 + y = (k : Int)) (hg : Good A 7 k) (h0 : Hid (A.size ≠ 0)) (h16 : Hid (16 < many A.size k)) :
    Calls Try.prog 7 #[.string a1, .int .u8 y, .agg #[.int .u8 z0, .int .u8 z1, .int .u8 z2]] w fun e w' => e = .returned (.bool true) ∧ Below w.heap.size w w' := by
  have HG := Lib.hid hg
  have HA : Hid (A.size ≤ 1000000) := Lib.hid (by omega)
  have n1 : (if (1000 : Int) < (a1.size : Int) then (1000 : Int) else (a1.size : Int)) = (A.size : Int) := by rw [← m1]; omega
  have hk1 : (1 : Int) ≤ k := by have := hg.k1; omega
  have hk2 : (k : Int) ≤ 1000 := by have := hg.k2; omega
  unfold maxLen at w1
  have HCUT : Hid (cutF A 7 k = ([], 4)) := Lib.hid (cut_many hg h0.out h16.out)
  go_enter Try.func7, Try.ntmps7
  go_wp2_with fail
  obtain ⟨q5, hq5⟩ : ∃ q, q = w.heap.size := ⟨_, rfl⟩
  obtain ⟨u0, hu0⟩ : ∃ u, u = w.alloc (.cells #[.int .u8 z0, .int .u8 z1, .int .u8 z2] 55) := ⟨_, rfl⟩
  have HARR : Hid (u0.heap[q5]? = some (.cells #[.int .u8 z0, .int .u8 z1, .int .u8 z2] 55 (0, 0))) := Lib.hid (by rw [hu0, hq5]; exact heap_alloc_new w _)
  have HBB : Hid (Below w.heap.size w u0) := Lib.hid (by rw [hu0]; exact below_alloc _ _)
  have HQL : Hid (w.heap.size ≤ q5 ∧ q5 < u0.heap.size) := Lib.hid (by rw [hu0, hq5]; simp)
  rw [← hu0, ← hq5]
  clear hu0 hq5
  refine (cut_l A 7 k _ HA.out [] 4 4 HCUT.out rfl).mono ?_
  rintro e wb ⟨v, rfl, ho, hb⟩
  obtain ⟨aa, ac, rfl, _⟩ := ho.at
  rw [show ([] : List Fr).length = 0 from rfl]
  have HARR2 := Lib.hid ((hb.block _ (blk_lt HARR.out)).trans HARR.out)
  have HBB2 := Lib.hid (HBB.out.trans (hb.mono HBB.out.size))
  clear ho hb HARR HBB
  go_wp2_with fail
  refine (fixed_any _).mono ?_
  rintro e w9 ⟨rfl, hb⟩
  have HBB9 := Lib.hid (HBB2.out.trans (hb.mono HBB2.out.size))
  clear hb
  go_wp2
  go_ret
  exact ⟨rfl, HBB9.out⟩
set_option maxHeartbeats 16000000 in
set_option maxRecDepth 100000 in
theorem walk1 (a1 A : ByteArray) (y z0 z1 z2 : Int) (k : Nat) (w : World) (hy0 : 0 ≤ y) (hy1 : y ≤ 255) (hz00 : 0 ≤ z0) (hz01 : z0 ≤ 255) (hz10 : 0 ≤ z1) (hz11 : z1 ≤ 255) (hz20 : 0 ≤ z2) (hz21 : z2 ≤ 255)
    (m1 : min (a1.size : Int) 1000 = A.size) (u1 : A.size ≤ a1.size) (v1 : A.size ≤ 1000) (y1 : a1.extract 0 A.size = A) (w1 : a1.size ≤ maxLen) (hk : 1 + y = (k : Int)) (hg : Good A 7 k) (m : Nat) (hc : Hid (Cutd A 7 k m)) (hm1 : m = 1) :
    Calls Try.prog 7 #[.string a1, .int .u8 y, .agg #[.int .u8 z0, .int .u8 z1, .int .u8 z2]] w fun e w' => e = .returned (.bool true) ∧ Below w.heap.size w w' := by
  have HG := Lib.hid hg
  have HA : Hid (A.size ≤ 1000000) := Lib.hid (by omega)
  have n1 : (if (1000 : Int) < (a1.size : Int) then (1000 : Int) else (a1.size : Int)) = (A.size : Int) := by rw [← m1]; omega
  have hk1 : (1 : Int) ≤ k := by have := hg.k1; omega
  have hk2 : (k : Int) ≤ 1000 := by have := hg.k2; omega
  unfold maxLen at w1
  have HCUT : Hid (cutF A 7 k = (parts A 7 k m, 0)) := Lib.hid (by
    have := cut_parts hg hc.out.s1 (by rw [hc.out.hm]; have := hc.out.m2; omega)
    rw [hc.out.hm] at this; exact this)
  have d1 : decide (m < 2) = true := by simp; omega
  have d2 : ((m : Int) == 1) = true := by simp; omega
  have d3 : decide ((m : Int) < 2) = true := by simp; omega
  have hm3 : (m : Int) ≤ 16 := by omega
  clear hm1
  go_enter Try.func7, Try.ntmps7
  go_wp2_with fail
  obtain ⟨q5, hq5⟩ : ∃ q, q = w.heap.size := ⟨_, rfl⟩
  obtain ⟨u0, hu0⟩ : ∃ u, u = w.alloc (.cells #[.int .u8 z0, .int .u8 z1, .int .u8 z2] 55) := ⟨_, rfl⟩
  have HARR : Hid (u0.heap[q5]? = some (.cells #[.int .u8 z0, .int .u8 z1, .int .u8 z2] 55 (0, 0))) := Lib.hid (by rw [hu0, hq5]; exact heap_alloc_new w _)
  have HBB : Hid (Below w.heap.size w u0) := Lib.hid (by rw [hu0]; exact below_alloc _ _)
  have HQL : Hid (w.heap.size ≤ q5 ∧ q5 < u0.heap.size) := Lib.hid (by rw [hu0, hq5]; simp)
  rw [← hu0, ← hq5]
  clear hu0 hq5
  refine (cut_l A 7 k _ HA.out (parts A 7 k m) 0 0 HCUT.out rfl).mono ?_
  rintro e wb ⟨v, rfl, ho, hb⟩
  have HARR2 := Lib.hid ((hb.block _ (blk_lt HARR.out)).trans HARR.out)
  have HBB2 := Lib.hid (HBB.out.trans (hb.mono HBB.out.size))
  obtain ⟨g, gc, hv⟩ := ho.form (by intro h; have := parts_len A 7 k m; rw [h] at this; simp at this; have := hc.out.m1; omega)
  rw [parts_len] at hv
  subst hv
  have HO := Lib.hid ho
  have HGL : Hid (u0.heap.size ≤ g) := Lib.hid (World.ownsRow.lt ho g rfl).1
  clear ho hb HARR HBB
  go_wp2_with fail
  refine (fixed_any _).mono ?_
  rintro e w9 ⟨rfl, hb⟩
  have HBB9 := Lib.hid (HBB2.out.trans (hb.mono HBB2.out.size))
  clear hb
  go_wp2
  go_ret
  exact ⟨rfl, HBB9.out⟩
set_option maxHeartbeats 16000000 in
set_option maxRecDepth 100000 in
theorem walkA (a1 A : ByteArray) (y z0 z1 z2 : Int) (k : Nat) (w : World) (hy0 : 0 ≤ y) (hy1 : y ≤ 255) (hz00 : 0 ≤ z0) (hz01 : z0 ≤ 255) (hz10 : 0 ≤ z1) (hz11 : z1 ≤ 255) (hz20 : 0 ≤ z2) (hz21 : z2 ≤ 255)
    (m1 : min (a1.size : Int) 1000 = A.size) (u1 : A.size ≤ a1.size) (v1 : A.size ≤ 1000) (y1 : a1.extract 0 A.size = A) (w1 : a1.size ≤ maxLen) (hk : 1 + y = (k : Int)) (hg : Good A 7 k) (m : Nat) (hc : Hid (Cutd A 7 k m)) (i j : Nat) (hmm : 2 ≤ m) (hi : i < m) (hj : j < m) (hzi : z0 % (m : Int) = (i : Int)) (hzj : z1 % (m : Int) = (j : Int)) (hz : z2 % 4 = 1) :
    Calls Try.prog 7 #[.string a1, .int .u8 y, .agg #[.int .u8 z0, .int .u8 z1, .int .u8 z2]] w fun e w' => e = .returned (.bool true) ∧ Below w.heap.size w w' := by
  have HG := Lib.hid hg
  have HA : Hid (A.size ≤ 1000000) := Lib.hid (by omega)
  have n1 : (if (1000 : Int) < (a1.size : Int) then (1000 : Int) else (a1.size : Int)) = (A.size : Int) := by rw [← m1]; omega
  have hk1 : (1 : Int) ≤ k := by have := hg.k1; omega
  have hk2 : (k : Int) ≤ 1000 := by have := hg.k2; omega
  unfold maxLen at w1
  have HCUT : Hid (cutF A 7 k = (parts A 7 k m, 0)) := Lib.hid (by
    have := cut_parts hg hc.out.s1 (by rw [hc.out.hm]; have := hc.out.m2; omega)
    rw [hc.out.hm] at this; exact this)
  have hm2 : (2 : Int) ≤ (m : Int) := by omega
  have hm3 : (m : Int) ≤ 16 := by have := hc.out.m2; omega
  have hm4 : decide (m < 2) = false := by simp; omega
  have hm5 : decide ((m : Int) < 2) = false := by simp; omega
  have hm0 : ((m : Int) == 0) = false := by simp; omega
  have hwz0 : IntKind.i64.wrap z0 = z0 := i64_small2 (by omega) (by omega)
  have hwz1 : IntKind.i64.wrap z1 = z1 := i64_small2 (by omega) (by omega)
  have hi' : (i : Int) < (m : Int) := by omega
  have hj' : (j : Int) < (m : Int) := by omega
  go_enter Try.func7, Try.ntmps7
  go_wp2_with fail
  obtain ⟨q5, hq5⟩ : ∃ q, q = w.heap.size := ⟨_, rfl⟩
  obtain ⟨u0, hu0⟩ : ∃ u, u = w.alloc (.cells #[.int .u8 z0, .int .u8 z1, .int .u8 z2] 55) := ⟨_, rfl⟩
  have HARR : Hid (u0.heap[q5]? = some (.cells #[.int .u8 z0, .int .u8 z1, .int .u8 z2] 55 (0, 0))) := Lib.hid (by rw [hu0, hq5]; exact heap_alloc_new w _)
  have HBB : Hid (Below w.heap.size w u0) := Lib.hid (by rw [hu0]; exact below_alloc _ _)
  have HQL : Hid (w.heap.size ≤ q5 ∧ q5 < u0.heap.size) := Lib.hid (by rw [hu0, hq5]; simp)
  rw [← hu0, ← hq5]
  clear hu0 hq5
  refine (cut_l A 7 k _ HA.out (parts A 7 k m) 0 0 HCUT.out rfl).mono ?_
  rintro e wb ⟨v, rfl, ho, hb⟩
  have HARR2 := Lib.hid ((hb.block _ (blk_lt HARR.out)).trans HARR.out)
  have HBB2 := Lib.hid (HBB.out.trans (hb.mono HBB.out.size))
  obtain ⟨g, gc, hv⟩ := ho.form (by intro h; have := parts_len A 7 k m; rw [h] at this; simp at this; have := hc.out.m1; omega)
  rw [parts_len] at hv
  subst hv
  have HO := Lib.hid ho
  have HGL : Hid (u0.heap.size ≤ g) := Lib.hid (World.ownsRow.lt ho g rfl).1
  clear ho hb HARR HBB
  have a0 := cell_at 0 HARR2.out
  have a1' := cell_at 1 HARR2.out
  have a2 := cell_at 2 HARR2.out
  simp at a0 a1' a2
  go_wp2_with fail
  go_quiet (fail)
  obtain ⟨u2, hu2⟩ : ∃ x, x = wb.drewN nq := ⟨_, rfl⟩
  have hb : Below wb.heap.size wb u2 := by rw [hu2]; exact drewN_below3 (Nat.le_refl _) _
  rw [← hu2, hzi, hzj]
  have HARR3 := Lib.hid ((hb.block _ (blk_lt HARR2.out)).trans HARR2.out)
  have HBB3 := Lib.hid (HBB2.out.trans (hb.mono HBB2.out.size))
  have HO2 := Lib.hid (HO.out.below hb)
  have HQG : Hid (q5 < g) := Lib.hid (Nat.lt_of_lt_of_le HQL.out.2 HGL.out)
  have hi'' : i < (parts A 7 k m).length := by rw [parts_len]; exact hi
  have hj'' : j < (parts A 7 k m).length := by rw [parts_len]; exact hj
  clear hu2 hb a0 a1' a2 hzi hzj HARR2 HO hm4 hm5 hm0 hwz0 hwz1
  obtain ⟨⟨i0, i1, i2, i3⟩, f0, f1, f2, f3⟩ := HO2.out.four hi''
  rw [parts_getD _ _ _ _ _ hi] at i0 i1 i2 i3
  dsimp only [partAt] at i0 i1 i2
  have HSS : Hid (∀ f, f ∈ parts A 7 k m → f.s.size ≤ 1000000) := Lib.hid (fun f hf => by
    unfold parts at hf
    rw [List.mem_map] at hf
    obtain ⟨i, hi, rfl⟩ := hf
    have := (hc.out.le (List.mem_range.1 hi)).1
    have := hc.out.k2
    omega)
  have HPI : Hid ((partAt A 7 k m i).s.size ≤ 1000000) := Lib.hid (by have := (hc.out.le hi).1; have := hc.out.k2; omega)
  have hset := HO2.out.setId hi'' 8
  rw [parts_getD _ _ _ _ _ hi] at hset
  have a2 := cell_at 2 ((heap_offC (k := q5) (g := g) (j := i * 4) (.int .u64 8) (by have := HQG.out; omega)).trans HARR3.out)
  simp at a2
  have b2 := cell_at 2 HARR3.out
  simp at b2
  go_wp2_with fail
  have HR := Lib.hid hset.rowOf
  have HBB4 : Hid (Below w.heap.size w (u2.setCell ⟨g, i * 4, none⟩ (.int .u64 8))) := Lib.hid (HBB3.out.setCell (p := ⟨g, i * 4, none⟩) (by have := HQG.out; have := HQL.out; dsimp only; omega) _)
  clear hset a2 b2 i0 i1 i2 i3 f0 f1 f2 f3
  refine (join_l _ _ _ ((parts A 7 k m).set i { partAt A 7 k m i with id := 8 }) _ HR.out.1 HR.out.2 (fun f hf => by
    rcases List.mem_or_eq_of_mem_set hf with q | q
    · exact HSS.out f q
    · rw [q]; exact HPI.out) _ 3 3 (hc.out.setId hmm hi (x := 8) (by decide)) rfl).mono ?_
  rintro e w6 ⟨rfl, hb⟩
  have HBB2 := Lib.hid (HBB4.out.trans (hb.mono HBB4.out.size))
  clear hb
  go_wp2_with fail
  refine (fixed_any _).mono ?_
  rintro e w9 ⟨rfl, hb⟩
  have HBB9 := Lib.hid (HBB2.out.trans (hb.mono HBB2.out.size))
  clear hb
  go_wp2
  go_ret
  exact ⟨rfl, HBB9.out⟩
set_option maxHeartbeats 16000000 in
set_option maxRecDepth 100000 in
theorem walkB (a1 A : ByteArray) (y z0 z1 z2 : Int) (k : Nat) (w : World) (hy0 : 0 ≤ y) (hy1 : y ≤ 255) (hz00 : 0 ≤ z0) (hz01 : z0 ≤ 255) (hz10 : 0 ≤ z1) (hz11 : z1 ≤ 255) (hz20 : 0 ≤ z2) (hz21 : z2 ≤ 255)
    (m1 : min (a1.size : Int) 1000 = A.size) (u1 : A.size ≤ a1.size) (v1 : A.size ≤ 1000) (y1 : a1.extract 0 A.size = A) (w1 : a1.size ≤ maxLen) (hk : 1 + y = (k : Int)) (hg : Good A 7 k) (m : Nat) (hc : Hid (Cutd A 7 k m)) (i j : Nat) (hmm : 2 ≤ m) (hi : i < m) (hj : j < m) (hzi : z0 % (m : Int) = (i : Int)) (hzj : z1 % (m : Int) = (j : Int)) (hz : z2 % 4 = 2) :
    Calls Try.prog 7 #[.string a1, .int .u8 y, .agg #[.int .u8 z0, .int .u8 z1, .int .u8 z2]] w fun e w' => e = .returned (.bool true) ∧ Below w.heap.size w w' := by
  have HG := Lib.hid hg
  have HA : Hid (A.size ≤ 1000000) := Lib.hid (by omega)
  have n1 : (if (1000 : Int) < (a1.size : Int) then (1000 : Int) else (a1.size : Int)) = (A.size : Int) := by rw [← m1]; omega
  have hk1 : (1 : Int) ≤ k := by have := hg.k1; omega
  have hk2 : (k : Int) ≤ 1000 := by have := hg.k2; omega
  unfold maxLen at w1
  have HCUT : Hid (cutF A 7 k = (parts A 7 k m, 0)) := Lib.hid (by
    have := cut_parts hg hc.out.s1 (by rw [hc.out.hm]; have := hc.out.m2; omega)
    rw [hc.out.hm] at this; exact this)
  have hm2 : (2 : Int) ≤ (m : Int) := by omega
  have hm3 : (m : Int) ≤ 16 := by have := hc.out.m2; omega
  have hm4 : decide (m < 2) = false := by simp; omega
  have hm5 : decide ((m : Int) < 2) = false := by simp; omega
  have hm0 : ((m : Int) == 0) = false := by simp; omega
  have hwz0 : IntKind.i64.wrap z0 = z0 := i64_small2 (by omega) (by omega)
  have hwz1 : IntKind.i64.wrap z1 = z1 := i64_small2 (by omega) (by omega)
  have hi' : (i : Int) < (m : Int) := by omega
  have hj' : (j : Int) < (m : Int) := by omega
  go_enter Try.func7, Try.ntmps7
  go_wp2_with fail
  obtain ⟨q5, hq5⟩ : ∃ q, q = w.heap.size := ⟨_, rfl⟩
  obtain ⟨u0, hu0⟩ : ∃ u, u = w.alloc (.cells #[.int .u8 z0, .int .u8 z1, .int .u8 z2] 55) := ⟨_, rfl⟩
  have HARR : Hid (u0.heap[q5]? = some (.cells #[.int .u8 z0, .int .u8 z1, .int .u8 z2] 55 (0, 0))) := Lib.hid (by rw [hu0, hq5]; exact heap_alloc_new w _)
  have HBB : Hid (Below w.heap.size w u0) := Lib.hid (by rw [hu0]; exact below_alloc _ _)
  have HQL : Hid (w.heap.size ≤ q5 ∧ q5 < u0.heap.size) := Lib.hid (by rw [hu0, hq5]; simp)
  rw [← hu0, ← hq5]
  clear hu0 hq5
  refine (cut_l A 7 k _ HA.out (parts A 7 k m) 0 0 HCUT.out rfl).mono ?_
  rintro e wb ⟨v, rfl, ho, hb⟩
  have HARR2 := Lib.hid ((hb.block _ (blk_lt HARR.out)).trans HARR.out)
  have HBB2 := Lib.hid (HBB.out.trans (hb.mono HBB.out.size))
  obtain ⟨g, gc, hv⟩ := ho.form (by intro h; have := parts_len A 7 k m; rw [h] at this; simp at this; have := hc.out.m1; omega)
  rw [parts_len] at hv
  subst hv
  have HO := Lib.hid ho
  have HGL : Hid (u0.heap.size ≤ g) := Lib.hid (World.ownsRow.lt ho g rfl).1
  clear ho hb HARR HBB
  have a0 := cell_at 0 HARR2.out
  have a1' := cell_at 1 HARR2.out
  have a2 := cell_at 2 HARR2.out
  simp at a0 a1' a2
  go_wp2_with fail
  go_quiet (fail)
  obtain ⟨u2, hu2⟩ : ∃ x, x = wb.drewN nq := ⟨_, rfl⟩
  have hb : Below wb.heap.size wb u2 := by rw [hu2]; exact drewN_below3 (Nat.le_refl _) _
  rw [← hu2, hzi, hzj]
  have HARR3 := Lib.hid ((hb.block _ (blk_lt HARR2.out)).trans HARR2.out)
  have HBB3 := Lib.hid (HBB2.out.trans (hb.mono HBB2.out.size))
  have HO2 := Lib.hid (HO.out.below hb)
  have HQG : Hid (q5 < g) := Lib.hid (Nat.lt_of_lt_of_le HQL.out.2 HGL.out)
  have hi'' : i < (parts A 7 k m).length := by rw [parts_len]; exact hi
  have hj'' : j < (parts A 7 k m).length := by rw [parts_len]; exact hj
  clear hu2 hb a0 a1' a2 hzi hzj HARR2 HO hm4 hm5 hm0 hwz0 hwz1
  obtain ⟨⟨i0, i1, i2, i3⟩, f0, f1, f2, f3⟩ := HO2.out.four hi''
  rw [parts_getD _ _ _ _ _ hi] at i0 i1 i2 i3
  dsimp only [partAt] at i0 i1 i2
  have HSS : Hid (∀ f, f ∈ parts A 7 k m → f.s.size ≤ 1000000) := Lib.hid (fun f hf => by
    unfold parts at hf
    rw [List.mem_map] at hf
    obtain ⟨i, hi, rfl⟩ := hf
    have := (hc.out.le (List.mem_range.1 hi)).1
    have := hc.out.k2
    omega)
  have HPI : Hid ((partAt A 7 k m i).s.size ≤ 1000000) := Lib.hid (by have := (hc.out.le hi).1; have := hc.out.k2; omega)
  have hset := HO2.out.setCt hi'' ((m : Int) + 1)
  rw [parts_getD _ _ _ _ _ hi] at hset
  have a2 := cell_at 2 ((heap_offC (k := q5) (g := g) (j := i * 4 + 2) (.int .i64 ((m : Int) + 1)) (by have := HQG.out; omega)).trans HARR3.out)
  simp at a2
  have b2 := cell_at 2 HARR3.out
  simp at b2
  go_wp2_with fail
  have HR := Lib.hid hset.rowOf
  have HBB4 : Hid (Below w.heap.size w (u2.setCell ⟨g, i * 4 + 2, none⟩ (.int .i64 ((m : Int) + 1)))) := Lib.hid (HBB3.out.setCell (p := ⟨g, i * 4 + 2, none⟩) (by have := HQG.out; have := HQL.out; dsimp only; omega) _)
  clear hset a2 b2 i0 i1 i2 i3 f0 f1 f2 f3
  refine (join_l _ _ _ ((parts A 7 k m).set i { partAt A 7 k m i with ct := (m : Int) + 1 }) _ HR.out.1 HR.out.2 (fun f hf => by
    rcases List.mem_or_eq_of_mem_set hf with q | q
    · exact HSS.out f q
    · rw [q]; exact HPI.out) _ 3 3 (hc.out.setCt hi (x := (m : Int) + 1) (by omega)) rfl).mono ?_
  rintro e w6 ⟨rfl, hb⟩
  have HBB2 := Lib.hid (HBB4.out.trans (hb.mono HBB4.out.size))
  clear hb
  go_wp2_with fail
  refine (fixed_any _).mono ?_
  rintro e w9 ⟨rfl, hb⟩
  have HBB9 := Lib.hid (HBB2.out.trans (hb.mono HBB2.out.size))
  clear hb
  go_wp2
  go_ret
  exact ⟨rfl, HBB9.out⟩
set_option maxHeartbeats 16000000 in
set_option maxRecDepth 100000 in
theorem walkC (a1 A : ByteArray) (y z0 z1 z2 : Int) (k : Nat) (w : World) (hy0 : 0 ≤ y) (hy1 : y ≤ 255) (hz00 : 0 ≤ z0) (hz01 : z0 ≤ 255) (hz10 : 0 ≤ z1) (hz11 : z1 ≤ 255) (hz20 : 0 ≤ z2) (hz21 : z2 ≤ 255)
    (m1 : min (a1.size : Int) 1000 = A.size) (u1 : A.size ≤ a1.size) (v1 : A.size ≤ 1000) (y1 : a1.extract 0 A.size = A) (w1 : a1.size ≤ maxLen) (hk : 1 + y = (k : Int)) (hg : Good A 7 k) (m : Nat) (hc : Hid (Cutd A 7 k m)) (i j : Nat) (hmm : 2 ≤ m) (hi : i < m) (hj : j < m) (hzi : z0 % (m : Int) = (i : Int)) (hzj : z1 % (m : Int) = (j : Int)) (hz : z2 % 4 = 3) (hne : i ≠ j) :
    Calls Try.prog 7 #[.string a1, .int .u8 y, .agg #[.int .u8 z0, .int .u8 z1, .int .u8 z2]] w fun e w' => e = .returned (.bool true) ∧ Below w.heap.size w w' := by
  have HG := Lib.hid hg
  have HA : Hid (A.size ≤ 1000000) := Lib.hid (by omega)
  have n1 : (if (1000 : Int) < (a1.size : Int) then (1000 : Int) else (a1.size : Int)) = (A.size : Int) := by rw [← m1]; omega
  have hk1 : (1 : Int) ≤ k := by have := hg.k1; omega
  have hk2 : (k : Int) ≤ 1000 := by have := hg.k2; omega
  unfold maxLen at w1
  have HCUT : Hid (cutF A 7 k = (parts A 7 k m, 0)) := Lib.hid (by
    have := cut_parts hg hc.out.s1 (by rw [hc.out.hm]; have := hc.out.m2; omega)
    rw [hc.out.hm] at this; exact this)
  have hm2 : (2 : Int) ≤ (m : Int) := by omega
  have hm3 : (m : Int) ≤ 16 := by have := hc.out.m2; omega
  have hm4 : decide (m < 2) = false := by simp; omega
  have hm5 : decide ((m : Int) < 2) = false := by simp; omega
  have hm0 : ((m : Int) == 0) = false := by simp; omega
  have hwz0 : IntKind.i64.wrap z0 = z0 := i64_small2 (by omega) (by omega)
  have hwz1 : IntKind.i64.wrap z1 = z1 := i64_small2 (by omega) (by omega)
  have hi' : (i : Int) < (m : Int) := by omega
  have hj' : (j : Int) < (m : Int) := by omega
  have hq : ((i : Int) == (j : Int)) = false := by simp; omega
  have hq2 : (i == j) = false := by simpa using hne
  go_enter Try.func7, Try.ntmps7
  go_wp2_with fail
  obtain ⟨q5, hq5⟩ : ∃ q, q = w.heap.size := ⟨_, rfl⟩
  obtain ⟨u0, hu0⟩ : ∃ u, u = w.alloc (.cells #[.int .u8 z0, .int .u8 z1, .int .u8 z2] 55) := ⟨_, rfl⟩
  have HARR : Hid (u0.heap[q5]? = some (.cells #[.int .u8 z0, .int .u8 z1, .int .u8 z2] 55 (0, 0))) := Lib.hid (by rw [hu0, hq5]; exact heap_alloc_new w _)
  have HBB : Hid (Below w.heap.size w u0) := Lib.hid (by rw [hu0]; exact below_alloc _ _)
  have HQL : Hid (w.heap.size ≤ q5 ∧ q5 < u0.heap.size) := Lib.hid (by rw [hu0, hq5]; simp)
  rw [← hu0, ← hq5]
  clear hu0 hq5
  refine (cut_l A 7 k _ HA.out (parts A 7 k m) 0 0 HCUT.out rfl).mono ?_
  rintro e wb ⟨v, rfl, ho, hb⟩
  have HARR2 := Lib.hid ((hb.block _ (blk_lt HARR.out)).trans HARR.out)
  have HBB2 := Lib.hid (HBB.out.trans (hb.mono HBB.out.size))
  obtain ⟨g, gc, hv⟩ := ho.form (by intro h; have := parts_len A 7 k m; rw [h] at this; simp at this; have := hc.out.m1; omega)
  rw [parts_len] at hv
  subst hv
  have HO := Lib.hid ho
  have HGL : Hid (u0.heap.size ≤ g) := Lib.hid (World.ownsRow.lt ho g rfl).1
  clear ho hb HARR HBB
  have a0 := cell_at 0 HARR2.out
  have a1' := cell_at 1 HARR2.out
  have a2 := cell_at 2 HARR2.out
  simp at a0 a1' a2
  go_wp2_with fail
  go_quiet (fail)
  obtain ⟨u2, hu2⟩ : ∃ x, x = wb.drewN nq := ⟨_, rfl⟩
  have hb : Below wb.heap.size wb u2 := by rw [hu2]; exact drewN_below3 (Nat.le_refl _) _
  rw [← hu2, hzi, hzj]
  have HARR3 := Lib.hid ((hb.block _ (blk_lt HARR2.out)).trans HARR2.out)
  have HBB3 := Lib.hid (HBB2.out.trans (hb.mono HBB2.out.size))
  have HO2 := Lib.hid (HO.out.below hb)
  have HQG : Hid (q5 < g) := Lib.hid (Nat.lt_of_lt_of_le HQL.out.2 HGL.out)
  have hi'' : i < (parts A 7 k m).length := by rw [parts_len]; exact hi
  have hj'' : j < (parts A 7 k m).length := by rw [parts_len]; exact hj
  clear hu2 hb a0 a1' a2 hzi hzj HARR2 HO hm4 hm5 hm0 hwz0 hwz1
  obtain ⟨⟨i0, i1, i2, i3⟩, f0, f1, f2, f3⟩ := HO2.out.four hi''
  rw [parts_getD _ _ _ _ _ hi] at i0 i1 i2 i3
  dsimp only [partAt] at i0 i1 i2
  have HSS : Hid (∀ f, f ∈ parts A 7 k m → f.s.size ≤ 1000000) := Lib.hid (fun f hf => by
    unfold parts at hf
    rw [List.mem_map] at hf
    obtain ⟨i, hi, rfl⟩ := hf
    have := (hc.out.le (List.mem_range.1 hi)).1
    have := hc.out.k2
    omega)
  have HPI : Hid ((partAt A 7 k m i).s.size ≤ 1000000) := Lib.hid (by have := (hc.out.le hi).1; have := hc.out.k2; omega)
  have hset := HO2.out.setIx hi'' (j : Int)
  rw [parts_getD _ _ _ _ _ hi] at hset
  have a2 := cell_at 2 ((heap_offC (k := q5) (g := g) (j := i * 4 + 1) (.int .i64 (j : Int)) (by have := HQG.out; omega)).trans HARR3.out)
  simp at a2
  have b2 := cell_at 2 HARR3.out
  simp at b2
  go_wp2_with fail
  have HR := Lib.hid hset.rowOf
  have HBB4 : Hid (Below w.heap.size w (u2.setCell ⟨g, i * 4 + 1, none⟩ (.int .i64 (j : Int)))) := Lib.hid (HBB3.out.setCell (p := ⟨g, i * 4 + 1, none⟩) (by have := HQG.out; have := HQL.out; dsimp only; omega) _)
  clear hset a2 b2 i0 i1 i2 i3 f0 f1 f2 f3
  refine (join_l _ _ _ ((parts A 7 k m).set i { partAt A 7 k m i with ix := (j : Int) }) _ HR.out.1 HR.out.2 (fun f hf => by
    rcases List.mem_or_eq_of_mem_set hf with q | q
    · exact HSS.out f q
    · rw [q]; exact HPI.out) _ 3 3 (hc.out.setIx hi (x := (j : Int)) (by omega)) rfl).mono ?_
  rintro e w6 ⟨rfl, hb⟩
  have HBB2 := Lib.hid (HBB4.out.trans (hb.mono HBB4.out.size))
  clear hb
  go_wp2_with fail
  refine (fixed_any _).mono ?_
  rintro e w9 ⟨rfl, hb⟩
  have HBB9 := Lib.hid (HBB2.out.trans (hb.mono HBB2.out.size))
  clear hb
  go_wp2
  go_ret
  exact ⟨rfl, HBB9.out⟩
set_option maxHeartbeats 16000000 in
set_option maxRecDepth 100000 in
theorem walkD (a1 A : ByteArray) (y z0 z1 z2 : Int) (k : Nat) (w : World) (hy0 : 0 ≤ y) (hy1 : y ≤ 255) (hz00 : 0 ≤ z0) (hz01 : z0 ≤ 255) (hz10 : 0 ≤ z1) (hz11 : z1 ≤ 255) (hz20 : 0 ≤ z2) (hz21 : z2 ≤ 255)
    (m1 : min (a1.size : Int) 1000 = A.size) (u1 : A.size ≤ a1.size) (v1 : A.size ≤ 1000) (y1 : a1.extract 0 A.size = A) (w1 : a1.size ≤ maxLen) (hk : 1 + y = (k : Int)) (hg : Good A 7 k) (m : Nat) (hc : Hid (Cutd A 7 k m)) (i : Nat) (hmm : 2 ≤ m) (hi : i < m) (hzi : z0 % (m : Int) = (i : Int)) (hzj : z1 % (m : Int) = (i : Int)) (hz : z2 % 4 = 3) :
    Calls Try.prog 7 #[.string a1, .int .u8 y, .agg #[.int .u8 z0, .int .u8 z1, .int .u8 z2]] w fun e w' => e = .returned (.bool true) ∧ Below w.heap.size w w' := by
  have HG := Lib.hid hg
  have HA : Hid (A.size ≤ 1000000) := Lib.hid (by omega)
  have n1 : (if (1000 : Int) < (a1.size : Int) then (1000 : Int) else (a1.size : Int)) = (A.size : Int) := by rw [← m1]; omega
  have hk1 : (1 : Int) ≤ k := by have := hg.k1; omega
  have hk2 : (k : Int) ≤ 1000 := by have := hg.k2; omega
  unfold maxLen at w1
  have HCUT : Hid (cutF A 7 k = (parts A 7 k m, 0)) := Lib.hid (by
    have := cut_parts hg hc.out.s1 (by rw [hc.out.hm]; have := hc.out.m2; omega)
    rw [hc.out.hm] at this; exact this)
  have hm2 : (2 : Int) ≤ (m : Int) := by omega
  have hm3 : (m : Int) ≤ 16 := by have := hc.out.m2; omega
  have hm4 : decide (m < 2) = false := by simp; omega
  have hm5 : decide ((m : Int) < 2) = false := by simp; omega
  have hm0 : ((m : Int) == 0) = false := by simp; omega
  have hwz0 : IntKind.i64.wrap z0 = z0 := i64_small2 (by omega) (by omega)
  have hwz1 : IntKind.i64.wrap z1 = z1 := i64_small2 (by omega) (by omega)
  have hi' : (i : Int) < (m : Int) := by omega
  have hq : ((i : Int) == (i : Int)) = true := by simp
  have hq2 : (i == i) = true := by simp
  have ht : (A.toList == A.toList) = true := by simp
  go_enter Try.func7, Try.ntmps7
  go_wp2_with fail
  obtain ⟨q5, hq5⟩ : ∃ q, q = w.heap.size := ⟨_, rfl⟩
  obtain ⟨u0, hu0⟩ : ∃ u, u = w.alloc (.cells #[.int .u8 z0, .int .u8 z1, .int .u8 z2] 55) := ⟨_, rfl⟩
  have HARR : Hid (u0.heap[q5]? = some (.cells #[.int .u8 z0, .int .u8 z1, .int .u8 z2] 55 (0, 0))) := Lib.hid (by rw [hu0, hq5]; exact heap_alloc_new w _)
  have HBB : Hid (Below w.heap.size w u0) := Lib.hid (by rw [hu0]; exact below_alloc _ _)
  have HQL : Hid (w.heap.size ≤ q5 ∧ q5 < u0.heap.size) := Lib.hid (by rw [hu0, hq5]; simp)
  rw [← hu0, ← hq5]
  clear hu0 hq5
  refine (cut_l A 7 k _ HA.out (parts A 7 k m) 0 0 HCUT.out rfl).mono ?_
  rintro e wb ⟨v, rfl, ho, hb⟩
  have HARR2 := Lib.hid ((hb.block _ (blk_lt HARR.out)).trans HARR.out)
  have HBB2 := Lib.hid (HBB.out.trans (hb.mono HBB.out.size))
  obtain ⟨g, gc, hv⟩ := ho.form (by intro h; have := parts_len A 7 k m; rw [h] at this; simp at this; have := hc.out.m1; omega)
  rw [parts_len] at hv
  subst hv
  have HO := Lib.hid ho
  have HGL : Hid (u0.heap.size ≤ g) := Lib.hid (World.ownsRow.lt ho g rfl).1
  clear ho hb HARR HBB
  have a0 := cell_at 0 HARR2.out
  have a1' := cell_at 1 HARR2.out
  have a2 := cell_at 2 HARR2.out
  simp at a0 a1' a2
  go_wp2_with fail
  go_quiet (fail)
  obtain ⟨u2, hu2⟩ : ∃ x, x = wb.drewN nq := ⟨_, rfl⟩
  have hb : Below wb.heap.size wb u2 := by rw [hu2]; exact drewN_below3 (Nat.le_refl _) _
  rw [← hu2, hzi, hzj]
  have HARR3 := Lib.hid ((hb.block _ (blk_lt HARR2.out)).trans HARR2.out)
  have HBB3 := Lib.hid (HBB2.out.trans (hb.mono HBB2.out.size))
  have HO2 := Lib.hid (HO.out.below hb)
  have HQG : Hid (q5 < g) := Lib.hid (Nat.lt_of_lt_of_le HQL.out.2 HGL.out)
  have hi'' : i < (parts A 7 k m).length := by rw [parts_len]; exact hi
  clear hu2 hb a0 a1' a2 hzi hzj HARR2 HO hm4 hm5 hm0 hwz0 hwz1
  obtain ⟨⟨i0, i1, i2, i3⟩, f0, f1, f2, f3⟩ := HO2.out.four hi''
  rw [parts_getD _ _ _ _ _ hi] at i0 i1 i2 i3
  dsimp only [partAt] at i0 i1 i2
  have HSS : Hid (∀ f, f ∈ parts A 7 k m → f.s.size ≤ 1000000) := Lib.hid (fun f hf => by
    unfold parts at hf
    rw [List.mem_map] at hf
    obtain ⟨i, hi, rfl⟩ := hf
    have := (hc.out.le (List.mem_range.1 hi)).1
    have := hc.out.k2
    omega)
  have HPI : Hid ((partAt A 7 k m i).s.size ≤ 1000000) := Lib.hid (by have := (hc.out.le hi).1; have := hc.out.k2; omega)
  have hset := HO2.out.setIx hi'' (i : Int)
  rw [parts_getD _ _ _ _ _ hi] at hset
  rw [show ({ partAt A 7 k m i with ix := (i : Int) } : Fr) = partAt A 7 k m i from rfl, show (parts A 7 k m).set i (partAt A 7 k m i) = parts A 7 k m by rw [← parts_getD A 7 k m i hi]; exact set_self _ _ hi''] at hset
  have a2 := cell_at 2 ((heap_offC (k := q5) (g := g) (j := i * 4 + 1) (.int .i64 (i : Int)) (by have := HQG.out; omega)).trans HARR3.out)
  simp at a2
  have b2 := cell_at 2 HARR3.out
  simp at b2
  go_wp2_with fail
  have HR := Lib.hid hset.rowOf
  have HBB4 : Hid (Below w.heap.size w (u2.setCell ⟨g, i * 4 + 1, none⟩ (.int .i64 (i : Int)))) := Lib.hid (HBB3.out.setCell (p := ⟨g, i * 4 + 1, none⟩) (by have := HQG.out; have := HQL.out; dsimp only; omega) _)
  clear hset a2 b2 i0 i1 i2 i3 f0 f1 f2 f3
  refine (join_l _ _ _ (parts A 7 k m) _ HR.out.1 HR.out.2 HSS.out A 0 0 hc.out.join rfl).mono ?_
  rintro e w6 ⟨rfl, hb⟩
  have HBB2 := Lib.hid (HBB4.out.trans (hb.mono HBB4.out.size))
  clear hb
  go_wp2_with fail
  refine (fixed_any _).mono ?_
  rintro e w9 ⟨rfl, hb⟩
  have HBB9 := Lib.hid (HBB2.out.trans (hb.mono HBB2.out.size))
  clear hb
  go_wp2
  go_ret
  exact ⟨rfl, HBB9.out⟩
set_option maxHeartbeats 16000000 in
set_option maxRecDepth 100000 in
theorem walkE (a1 A : ByteArray) (y z0 z1 z2 : Int) (k : Nat) (w : World) (hy0 : 0 ≤ y) (hy1 : y ≤ 255) (hz00 : 0 ≤ z0) (hz01 : z0 ≤ 255) (hz10 : 0 ≤ z1) (hz11 : z1 ≤ 255) (hz20 : 0 ≤ z2) (hz21 : z2 ≤ 255)
    (m1 : min (a1.size : Int) 1000 = A.size) (u1 : A.size ≤ a1.size) (v1 : A.size ≤ 1000) (y1 : a1.extract 0 A.size = A) (w1 : a1.size ≤ maxLen) (hk : 1 + y = (k : Int)) (hg : Good A 7 k) (m : Nat) (hc : Hid (Cutd A 7 k m)) (i j : Nat) (hmm : 2 ≤ m) (hi : i < m) (hj : j < m) (hzi : z0 % (m : Int) = (i : Int)) (hzj : z1 % (m : Int) = (j : Int)) (hz : z2 % 4 = 0) (hne : i ≠ j) :
    Calls Try.prog 7 #[.string a1, .int .u8 y, .agg #[.int .u8 z0, .int .u8 z1, .int .u8 z2]] w fun e w' => e = .returned (.bool true) ∧ Below w.heap.size w w' := by
  have HG := Lib.hid hg
  have HA : Hid (A.size ≤ 1000000) := Lib.hid (by omega)
  have n1 : (if (1000 : Int) < (a1.size : Int) then (1000 : Int) else (a1.size : Int)) = (A.size : Int) := by rw [← m1]; omega
  have hk1 : (1 : Int) ≤ k := by have := hg.k1; omega
  have hk2 : (k : Int) ≤ 1000 := by have := hg.k2; omega
  unfold maxLen at w1
  have HCUT : Hid (cutF A 7 k = (parts A 7 k m, 0)) := Lib.hid (by
    have := cut_parts hg hc.out.s1 (by rw [hc.out.hm]; have := hc.out.m2; omega)
    rw [hc.out.hm] at this; exact this)
  have hm2 : (2 : Int) ≤ (m : Int) := by omega
  have hm3 : (m : Int) ≤ 16 := by have := hc.out.m2; omega
  have hm4 : decide (m < 2) = false := by simp; omega
  have hm5 : decide ((m : Int) < 2) = false := by simp; omega
  have hm0 : ((m : Int) == 0) = false := by simp; omega
  have hwz0 : IntKind.i64.wrap z0 = z0 := i64_small2 (by omega) (by omega)
  have hwz1 : IntKind.i64.wrap z1 = z1 := i64_small2 (by omega) (by omega)
  have hi' : (i : Int) < (m : Int) := by omega
  have hj' : (j : Int) < (m : Int) := by omega
  have hq : ((i : Int) == (j : Int)) = false := by simp; omega
  have hq2 : (i == j) = false := by simpa using hne
  go_enter Try.func7, Try.ntmps7
  go_wp2_with fail
  obtain ⟨q5, hq5⟩ : ∃ q, q = w.heap.size := ⟨_, rfl⟩
  obtain ⟨u0, hu0⟩ : ∃ u, u = w.alloc (.cells #[.int .u8 z0, .int .u8 z1, .int .u8 z2] 55) := ⟨_, rfl⟩
  have HARR : Hid (u0.heap[q5]? = some (.cells #[.int .u8 z0, .int .u8 z1, .int .u8 z2] 55 (0, 0))) := Lib.hid (by rw [hu0, hq5]; exact heap_alloc_new w _)
  have HBB : Hid (Below w.heap.size w u0) := Lib.hid (by rw [hu0]; exact below_alloc _ _)
  have HQL : Hid (w.heap.size ≤ q5 ∧ q5 < u0.heap.size) := Lib.hid (by rw [hu0, hq5]; simp)
  rw [← hu0, ← hq5]
  clear hu0 hq5
  refine (cut_l A 7 k _ HA.out (parts A 7 k m) 0 0 HCUT.out rfl).mono ?_
  rintro e wb ⟨v, rfl, ho, hb⟩
  have HARR2 := Lib.hid ((hb.block _ (blk_lt HARR.out)).trans HARR.out)
  have HBB2 := Lib.hid (HBB.out.trans (hb.mono HBB.out.size))
  obtain ⟨g, gc, hv⟩ := ho.form (by intro h; have := parts_len A 7 k m; rw [h] at this; simp at this; have := hc.out.m1; omega)
  rw [parts_len] at hv
  subst hv
  have HO := Lib.hid ho
  have HGL : Hid (u0.heap.size ≤ g) := Lib.hid (World.ownsRow.lt ho g rfl).1
  clear ho hb HARR HBB
  have a0 := cell_at 0 HARR2.out
  have a1' := cell_at 1 HARR2.out
  have a2 := cell_at 2 HARR2.out
  simp at a0 a1' a2
  go_wp2_with fail
  go_quiet (fail)
  obtain ⟨u2, hu2⟩ : ∃ x, x = wb.drewN nq := ⟨_, rfl⟩
  have hb : Below wb.heap.size wb u2 := by rw [hu2]; exact drewN_below3 (Nat.le_refl _) _
  rw [← hu2, hzi, hzj]
  have HARR3 := Lib.hid ((hb.block _ (blk_lt HARR2.out)).trans HARR2.out)
  have HBB3 := Lib.hid (HBB2.out.trans (hb.mono HBB2.out.size))
  have HO2 := Lib.hid (HO.out.below hb)
  have HQG : Hid (q5 < g) := Lib.hid (Nat.lt_of_lt_of_le HQL.out.2 HGL.out)
  have hi'' : i < (parts A 7 k m).length := by rw [parts_len]; exact hi
  have hj'' : j < (parts A 7 k m).length := by rw [parts_len]; exact hj
  clear hu2 hb a0 a1' a2 hzi hzj HARR2 HO hm4 hm5 hm0 hwz0 hwz1
  obtain ⟨⟨i0, i1, i2, i3⟩, f0, f1, f2, f3⟩ := HO2.out.four hi''
  rw [parts_getD _ _ _ _ _ hi] at i0 i1 i2 i3
  dsimp only [partAt] at i0 i1 i2
  have HSS : Hid (∀ f, f ∈ parts A 7 k m → f.s.size ≤ 1000000) := Lib.hid (fun f hf => by
    unfold parts at hf
    rw [List.mem_map] at hf
    obtain ⟨i, hi, rfl⟩ := hf
    have := (hc.out.le (List.mem_range.1 hi)).1
    have := hc.out.k2
    omega)
  have HPI : Hid ((partAt A 7 k m i).s.size ≤ 1000000) := Lib.hid (by have := (hc.out.le hi).1; have := hc.out.k2; omega)
  have HPJ : Hid ((partAt A 7 k m j).s.size ≤ 1000000) := Lib.hid (by have := (hc.out.le hj).1; have := hc.out.k2; omega)
  have HGB : Hid (w.heap.size ≤ g) := Lib.hid (by have := HQG.out; have := HQL.out; omega)
  obtain ⟨pi, hpi⟩ : ∃ t, (partAt A 7 k m i).s = t := ⟨_, rfl⟩
  obtain ⟨pj, hpj⟩ : ∃ t, (partAt A 7 k m j).s = t := ⟨_, rfl⟩
  rw [hpi] at i3
  have hQI : partAt A 7 k m i = ⟨7, i, m, pi⟩ := by rw [← hpi]; rfl
  have hQJ : partAt A 7 k m j = ⟨7, j, m, pj⟩ := by rw [← hpj]; rfl
  have ho3 : OwnF 26 u0.heap.size (.slice (some ⟨g, 0, none⟩) m gc) (parts A 7 k m) (u2.alloc (.cells #[.int .u64 7, .int .i64 (i : Int), .int .i64 (m : Int), .string pi] 26)) := HO2.out.below (below_alloc _ _)
  have hbx : FrAt 26 (u2.alloc (.cells #[.int .u64 7, .int .i64 (i : Int), .int .i64 (m : Int), .string pi] 26)) u2.heap.size ⟨7, i, m, pi⟩ := heap_alloc_new u2 _
  have hgx : u2.heap.size ≠ g := by
    obtain ⟨cur, hcur⟩ := HO2.out.block
    have := blk_lt hcur
    omega
  have ho4 : OwnF 26 u0.heap.size (.slice (some ⟨g, 0, none⟩) m gc) ((parts A 7 k m).set i ⟨7, j, m, pj⟩) (((((u2.alloc (.cells #[.int .u64 7, .int .i64 (i : Int), .int .i64 (m : Int), .string pi] 26)).setCell ⟨g, i * 4, none⟩ (.int .u64 7)).setCell ⟨g, i * 4 + 1, none⟩ (.int .i64 (j : Int))).setCell ⟨g, i * 4 + 2, none⟩ (.int .i64 (m : Int))).setCell ⟨g, i * 4 + 3, none⟩ (.string pj)) := ho3.setF hi'' ⟨7, j, m, pj⟩
  have hbx4 : FrAt 26 (((((u2.alloc (.cells #[.int .u64 7, .int .i64 (i : Int), .int .i64 (m : Int), .string pi] 26)).setCell ⟨g, i * 4, none⟩ (.int .u64 7)).setCell ⟨g, i * 4 + 1, none⟩ (.int .i64 (j : Int))).setCell ⟨g, i * 4 + 2, none⟩ (.int .i64 (m : Int))).setCell ⟨g, i * 4 + 3, none⟩ (.string pj)) u2.heap.size ⟨7, i, m, pi⟩ := by unfold FrAt; rw [heap_offC _ hgx, heap_offC _ hgx, heap_offC _ hgx, heap_offC _ hgx]; exact hbx
  have hj4 : j < ((parts A 7 k m).set i ⟨7, j, m, pj⟩).length := by rw [List.length_set]; exact hj''
  have hset : OwnF 26 u0.heap.size (.slice (some ⟨g, 0, none⟩) m gc) (((parts A 7 k m).set i ⟨7, j, m, pj⟩).set j ⟨7, i, m, pi⟩) (((((((((u2.alloc (.cells #[.int .u64 7, .int .i64 (i : Int), .int .i64 (m : Int), .string pi] 26)).setCell ⟨g, i * 4, none⟩ (.int .u64 7)).setCell ⟨g, i * 4 + 1, none⟩ (.int .i64 (j : Int))).setCell ⟨g, i * 4 + 2, none⟩ (.int .i64 (m : Int))).setCell ⟨g, i * 4 + 3, none⟩ (.string pj)).setCell ⟨g, j * 4, none⟩ (.int .u64 7)).setCell ⟨g, j * 4 + 1, none⟩ (.int .i64 (i : Int))).setCell ⟨g, j * 4 + 2, none⟩ (.int .i64 (m : Int))).setCell ⟨g, j * 4 + 3, none⟩ (.string pi)) := ho4.setF hj4 ⟨7, i, m, pi⟩
  have HARR4 : Hid ((((((((((u2.alloc (.cells #[.int .u64 7, .int .i64 (i : Int), .int .i64 (m : Int), .string pi] 26)).setCell ⟨g, i * 4, none⟩ (.int .u64 7)).setCell ⟨g, i * 4 + 1, none⟩ (.int .i64 (j : Int))).setCell ⟨g, i * 4 + 2, none⟩ (.int .i64 (m : Int))).setCell ⟨g, i * 4 + 3, none⟩ (.string pj)).setCell ⟨g, j * 4, none⟩ (.int .u64 7)).setCell ⟨g, j * 4 + 1, none⟩ (.int .i64 (i : Int))).setCell ⟨g, j * 4 + 2, none⟩ (.int .i64 (m : Int))).setCell ⟨g, j * 4 + 3, none⟩ (.string pi)).heap[q5]? = some (.cells #[.int .u8 z0, .int .u8 z1, .int .u8 z2] 55 (0, 0))) := Lib.hid (by
    have hqg : q5 ≠ g := by have := HQG.out; omega
    rw [heap_offC _ hqg, heap_offC _ hqg, heap_offC _ hqg, heap_offC _ hqg, heap_offC _ hqg, heap_offC _ hqg, heap_offC _ hqg, heap_offC _ hqg]
    exact ((below_alloc u2 _).block q5 (blk_lt HARR3.out)).trans HARR3.out)
  have HBB4 : Hid (Below w.heap.size w (((((((((u2.alloc (.cells #[.int .u64 7, .int .i64 (i : Int), .int .i64 (m : Int), .string pi] 26)).setCell ⟨g, i * 4, none⟩ (.int .u64 7)).setCell ⟨g, i * 4 + 1, none⟩ (.int .i64 (j : Int))).setCell ⟨g, i * 4 + 2, none⟩ (.int .i64 (m : Int))).setCell ⟨g, i * 4 + 3, none⟩ (.string pj)).setCell ⟨g, j * 4, none⟩ (.int .u64 7)).setCell ⟨g, j * 4 + 1, none⟩ (.int .i64 (i : Int))).setCell ⟨g, j * 4 + 2, none⟩ (.int .i64 (m : Int))).setCell ⟨g, j * 4 + 3, none⟩ (.string pi))) := Lib.hid (((((((((HBB3.out.trans ((below_alloc u2 _).mono HBB3.out.size)).setCell (p := ⟨g, i * 4, none⟩) HGB.out _).setCell (p := ⟨g, i * 4 + 1, none⟩) HGB.out _).setCell (p := ⟨g, i * 4 + 2, none⟩) HGB.out _).setCell (p := ⟨g, i * 4 + 3, none⟩) HGB.out _).setCell (p := ⟨g, j * 4, none⟩) HGB.out _).setCell (p := ⟨g, j * 4 + 1, none⟩) HGB.out _).setCell (p := ⟨g, j * 4 + 2, none⟩) HGB.out _).setCell (p := ⟨g, j * 4 + 3, none⟩) HGB.out _)
  obtain ⟨⟨r0, r1, r2, r3⟩, s0, s1, s2, s3⟩ := ho3.four hi''
  obtain ⟨⟨x0, x1, x2, x3⟩, t0, t1, t2, t3⟩ := ho3.four hj''
  rw [parts_getD _ _ _ _ _ hj, hQJ] at x0 x1 x2 x3
  obtain ⟨⟨v0, v1', v2, v3⟩, y0, y1', y2, y3⟩ := ho4.four hj4
  rw [parts_getD _ _ _ _ _ hi, hQI] at r0 r1 r2 r3
  rw [getD_set _ _ _ _ hi'', if_neg hne, parts_getD _ _ _ _ _ hj, hQJ] at v0 v1' v2 v3
  obtain ⟨b0, b1, b2, b3⟩ := hbx4.cells
  dsimp only at r0 r1 r2 r3 v0 v1' v2 v3 b0 b1 b2 b3 i0 i1 i2 i3 x0 x1 x2 x3
  have a2 := cell_at 2 HARR4.out
  simp at a2
  have a3 := cell_at 2 HARR3.out
  simp at a3
  have HSET := Lib.hid hset
  have HQQ := Lib.hid (And.intro hQI hQJ)
  clear hset ho3 hbx ho4 hbx4 hQI hQJ hpj hpi
  go_wp2_with fail
  clear i0 i1 i2 i3 f0 f1 f2 f3 r0 r1 r2 r3 s0 s1 s2 s3 x0 x1 x2 x3 t0 t1 t2 t3 v0 v1' v2 v3 y0 y1' y2 y3 b0 b1 b2 b3 a2 a3
  have hset := HSET.out
  rw [← HQQ.out.1, ← HQQ.out.2] at hset
  have HR := Lib.hid hset.rowOf
  clear hset
  refine (join_l _ _ _ (((parts A 7 k m).set i (partAt A 7 k m j)).set j (partAt A 7 k m i)) _ HR.out.1 HR.out.2 (fun f hf => by
    rcases List.mem_or_eq_of_mem_set hf with q | q
    · rcases List.mem_or_eq_of_mem_set q with q | q
      · exact HSS.out f q
      · rw [q]; exact HPJ.out
    · rw [q]; exact HPI.out) _ 3 3 (hc.out.swap hi hj hne) rfl).mono ?_
  rintro e w6 ⟨rfl, hb⟩
  have HBB2 := Lib.hid (HBB4.out.trans (hb.mono HBB4.out.size))
  clear hb
  go_wp2_with fail
  refine (fixed_any _).mono ?_
  rintro e w9 ⟨rfl, hb⟩
  have HBB9 := Lib.hid (HBB2.out.trans (hb.mono HBB2.out.size))
  clear hb
  go_wp2
  go_ret
  exact ⟨rfl, HBB9.out⟩
set_option maxHeartbeats 16000000 in
set_option maxRecDepth 100000 in
theorem walkF (a1 A : ByteArray) (y z0 z1 z2 : Int) (k : Nat) (w : World) (hy0 : 0 ≤ y) (hy1 : y ≤ 255) (hz00 : 0 ≤ z0) (hz01 : z0 ≤ 255) (hz10 : 0 ≤ z1) (hz11 : z1 ≤ 255) (hz20 : 0 ≤ z2) (hz21 : z2 ≤ 255)
    (m1 : min (a1.size : Int) 1000 = A.size) (u1 : A.size ≤ a1.size) (v1 : A.size ≤ 1000) (y1 : a1.extract 0 A.size = A) (w1 : a1.size ≤ maxLen) (hk : 1 + y = (k : Int)) (hg : Good A 7 k) (m : Nat) (hc : Hid (Cutd A 7 k m)) (i : Nat) (hmm : 2 ≤ m) (hi : i < m) (hzi : z0 % (m : Int) = (i : Int)) (hzj : z1 % (m : Int) = (i : Int)) (hz : z2 % 4 = 0) :
    Calls Try.prog 7 #[.string a1, .int .u8 y, .agg #[.int .u8 z0, .int .u8 z1, .int .u8 z2]] w fun e w' => e = .returned (.bool true) ∧ Below w.heap.size w w' := by
  have HG := Lib.hid hg
  have HA : Hid (A.size ≤ 1000000) := Lib.hid (by omega)
  have n1 : (if (1000 : Int) < (a1.size : Int) then (1000 : Int) else (a1.size : Int)) = (A.size : Int) := by rw [← m1]; omega
  have hk1 : (1 : Int) ≤ k := by have := hg.k1; omega
  have hk2 : (k : Int) ≤ 1000 := by have := hg.k2; omega
  unfold maxLen at w1
  have HCUT : Hid (cutF A 7 k = (parts A 7 k m, 0)) := Lib.hid (by
    have := cut_parts hg hc.out.s1 (by rw [hc.out.hm]; have := hc.out.m2; omega)
    rw [hc.out.hm] at this; exact this)
  have hm2 : (2 : Int) ≤ (m : Int) := by omega
  have hm3 : (m : Int) ≤ 16 := by have := hc.out.m2; omega
  have hm4 : decide (m < 2) = false := by simp; omega
  have hm5 : decide ((m : Int) < 2) = false := by simp; omega
  have hm0 : ((m : Int) == 0) = false := by simp; omega
  have hwz0 : IntKind.i64.wrap z0 = z0 := i64_small2 (by omega) (by omega)
  have hwz1 : IntKind.i64.wrap z1 = z1 := i64_small2 (by omega) (by omega)
  have hi' : (i : Int) < (m : Int) := by omega
  have hq : ((i : Int) == (i : Int)) = true := by simp
  have hq2 : (i == i) = true := by simp
  have ht : (A.toList == A.toList) = true := by simp
  go_enter Try.func7, Try.ntmps7
  go_wp2_with fail
  obtain ⟨q5, hq5⟩ : ∃ q, q = w.heap.size := ⟨_, rfl⟩
  obtain ⟨u0, hu0⟩ : ∃ u, u = w.alloc (.cells #[.int .u8 z0, .int .u8 z1, .int .u8 z2] 55) := ⟨_, rfl⟩
  have HARR : Hid (u0.heap[q5]? = some (.cells #[.int .u8 z0, .int .u8 z1, .int .u8 z2] 55 (0, 0))) := Lib.hid (by rw [hu0, hq5]; exact heap_alloc_new w _)
  have HBB : Hid (Below w.heap.size w u0) := Lib.hid (by rw [hu0]; exact below_alloc _ _)
  have HQL : Hid (w.heap.size ≤ q5 ∧ q5 < u0.heap.size) := Lib.hid (by rw [hu0, hq5]; simp)
  rw [← hu0, ← hq5]
  clear hu0 hq5
  refine (cut_l A 7 k _ HA.out (parts A 7 k m) 0 0 HCUT.out rfl).mono ?_
  rintro e wb ⟨v, rfl, ho, hb⟩
  have HARR2 := Lib.hid ((hb.block _ (blk_lt HARR.out)).trans HARR.out)
  have HBB2 := Lib.hid (HBB.out.trans (hb.mono HBB.out.size))
  obtain ⟨g, gc, hv⟩ := ho.form (by intro h; have := parts_len A 7 k m; rw [h] at this; simp at this; have := hc.out.m1; omega)
  rw [parts_len] at hv
  subst hv
  have HO := Lib.hid ho
  have HGL : Hid (u0.heap.size ≤ g) := Lib.hid (World.ownsRow.lt ho g rfl).1
  clear ho hb HARR HBB
  have a0 := cell_at 0 HARR2.out
  have a1' := cell_at 1 HARR2.out
  have a2 := cell_at 2 HARR2.out
  simp at a0 a1' a2
  go_wp2_with fail
  go_quiet (fail)
  obtain ⟨u2, hu2⟩ : ∃ x, x = wb.drewN nq := ⟨_, rfl⟩
  have hb : Below wb.heap.size wb u2 := by rw [hu2]; exact drewN_below3 (Nat.le_refl _) _
  rw [← hu2, hzi, hzj]
  have HARR3 := Lib.hid ((hb.block _ (blk_lt HARR2.out)).trans HARR2.out)
  have HBB3 := Lib.hid (HBB2.out.trans (hb.mono HBB2.out.size))
  have HO2 := Lib.hid (HO.out.below hb)
  have HQG : Hid (q5 < g) := Lib.hid (Nat.lt_of_lt_of_le HQL.out.2 HGL.out)
  have hi'' : i < (parts A 7 k m).length := by rw [parts_len]; exact hi
  clear hu2 hb a0 a1' a2 hzi hzj HARR2 HO hm4 hm5 hm0 hwz0 hwz1
  obtain ⟨⟨i0, i1, i2, i3⟩, f0, f1, f2, f3⟩ := HO2.out.four hi''
  rw [parts_getD _ _ _ _ _ hi] at i0 i1 i2 i3
  dsimp only [partAt] at i0 i1 i2
  have HSS : Hid (∀ f, f ∈ parts A 7 k m → f.s.size ≤ 1000000) := Lib.hid (fun f hf => by
    unfold parts at hf
    rw [List.mem_map] at hf
    obtain ⟨i, hi, rfl⟩ := hf
    have := (hc.out.le (List.mem_range.1 hi)).1
    have := hc.out.k2
    omega)
  have HPI : Hid ((partAt A 7 k m i).s.size ≤ 1000000) := Lib.hid (by have := (hc.out.le hi).1; have := hc.out.k2; omega)
  have HPJ : Hid ((partAt A 7 k m i).s.size ≤ 1000000) := Lib.hid (by have := (hc.out.le hi).1; have := hc.out.k2; omega)
  have HGB : Hid (w.heap.size ≤ g) := Lib.hid (by have := HQG.out; have := HQL.out; omega)
  obtain ⟨pi, hpi⟩ : ∃ t, (partAt A 7 k m i).s = t := ⟨_, rfl⟩
  rw [hpi] at i3
  have hQI : partAt A 7 k m i = ⟨7, i, m, pi⟩ := by rw [← hpi]; rfl
  have ho3 : OwnF 26 u0.heap.size (.slice (some ⟨g, 0, none⟩) m gc) (parts A 7 k m) (u2.alloc (.cells #[.int .u64 7, .int .i64 (i : Int), .int .i64 (m : Int), .string pi] 26)) := HO2.out.below (below_alloc _ _)
  have hbx : FrAt 26 (u2.alloc (.cells #[.int .u64 7, .int .i64 (i : Int), .int .i64 (m : Int), .string pi] 26)) u2.heap.size ⟨7, i, m, pi⟩ := heap_alloc_new u2 _
  have hgx : u2.heap.size ≠ g := by
    obtain ⟨cur, hcur⟩ := HO2.out.block
    have := blk_lt hcur
    omega
  have ho4 : OwnF 26 u0.heap.size (.slice (some ⟨g, 0, none⟩) m gc) ((parts A 7 k m).set i ⟨7, i, m, pi⟩) (((((u2.alloc (.cells #[.int .u64 7, .int .i64 (i : Int), .int .i64 (m : Int), .string pi] 26)).setCell ⟨g, i * 4, none⟩ (.int .u64 7)).setCell ⟨g, i * 4 + 1, none⟩ (.int .i64 (i : Int))).setCell ⟨g, i * 4 + 2, none⟩ (.int .i64 (m : Int))).setCell ⟨g, i * 4 + 3, none⟩ (.string pi)) := ho3.setF hi'' ⟨7, i, m, pi⟩
  have hbx4 : FrAt 26 (((((u2.alloc (.cells #[.int .u64 7, .int .i64 (i : Int), .int .i64 (m : Int), .string pi] 26)).setCell ⟨g, i * 4, none⟩ (.int .u64 7)).setCell ⟨g, i * 4 + 1, none⟩ (.int .i64 (i : Int))).setCell ⟨g, i * 4 + 2, none⟩ (.int .i64 (m : Int))).setCell ⟨g, i * 4 + 3, none⟩ (.string pi)) u2.heap.size ⟨7, i, m, pi⟩ := by unfold FrAt; rw [heap_offC _ hgx, heap_offC _ hgx, heap_offC _ hgx, heap_offC _ hgx]; exact hbx
  have hj4 : i < ((parts A 7 k m).set i ⟨7, i, m, pi⟩).length := by rw [List.length_set]; exact hi''
  have hset : OwnF 26 u0.heap.size (.slice (some ⟨g, 0, none⟩) m gc) (((parts A 7 k m).set i ⟨7, i, m, pi⟩).set i ⟨7, i, m, pi⟩) (((((((((u2.alloc (.cells #[.int .u64 7, .int .i64 (i : Int), .int .i64 (m : Int), .string pi] 26)).setCell ⟨g, i * 4, none⟩ (.int .u64 7)).setCell ⟨g, i * 4 + 1, none⟩ (.int .i64 (i : Int))).setCell ⟨g, i * 4 + 2, none⟩ (.int .i64 (m : Int))).setCell ⟨g, i * 4 + 3, none⟩ (.string pi)).setCell ⟨g, i * 4, none⟩ (.int .u64 7)).setCell ⟨g, i * 4 + 1, none⟩ (.int .i64 (i : Int))).setCell ⟨g, i * 4 + 2, none⟩ (.int .i64 (m : Int))).setCell ⟨g, i * 4 + 3, none⟩ (.string pi)) := ho4.setF hj4 ⟨7, i, m, pi⟩
  have HARR4 : Hid ((((((((((u2.alloc (.cells #[.int .u64 7, .int .i64 (i : Int), .int .i64 (m : Int), .string pi] 26)).setCell ⟨g, i * 4, none⟩ (.int .u64 7)).setCell ⟨g, i * 4 + 1, none⟩ (.int .i64 (i : Int))).setCell ⟨g, i * 4 + 2, none⟩ (.int .i64 (m : Int))).setCell ⟨g, i * 4 + 3, none⟩ (.string pi)).setCell ⟨g, i * 4, none⟩ (.int .u64 7)).setCell ⟨g, i * 4 + 1, none⟩ (.int .i64 (i : Int))).setCell ⟨g, i * 4 + 2, none⟩ (.int .i64 (m : Int))).setCell ⟨g, i * 4 + 3, none⟩ (.string pi)).heap[q5]? = some (.cells #[.int .u8 z0, .int .u8 z1, .int .u8 z2] 55 (0, 0))) := Lib.hid (by
    have hqg : q5 ≠ g := by have := HQG.out; omega
    rw [heap_offC _ hqg, heap_offC _ hqg, heap_offC _ hqg, heap_offC _ hqg, heap_offC _ hqg, heap_offC _ hqg, heap_offC _ hqg, heap_offC _ hqg]
    exact ((below_alloc u2 _).block q5 (blk_lt HARR3.out)).trans HARR3.out)
  have HBB4 : Hid (Below w.heap.size w (((((((((u2.alloc (.cells #[.int .u64 7, .int .i64 (i : Int), .int .i64 (m : Int), .string pi] 26)).setCell ⟨g, i * 4, none⟩ (.int .u64 7)).setCell ⟨g, i * 4 + 1, none⟩ (.int .i64 (i : Int))).setCell ⟨g, i * 4 + 2, none⟩ (.int .i64 (m : Int))).setCell ⟨g, i * 4 + 3, none⟩ (.string pi)).setCell ⟨g, i * 4, none⟩ (.int .u64 7)).setCell ⟨g, i * 4 + 1, none⟩ (.int .i64 (i : Int))).setCell ⟨g, i * 4 + 2, none⟩ (.int .i64 (m : Int))).setCell ⟨g, i * 4 + 3, none⟩ (.string pi))) := Lib.hid (((((((((HBB3.out.trans ((below_alloc u2 _).mono HBB3.out.size)).setCell (p := ⟨g, i * 4, none⟩) HGB.out _).setCell (p := ⟨g, i * 4 + 1, none⟩) HGB.out _).setCell (p := ⟨g, i * 4 + 2, none⟩) HGB.out _).setCell (p := ⟨g, i * 4 + 3, none⟩) HGB.out _).setCell (p := ⟨g, i * 4, none⟩) HGB.out _).setCell (p := ⟨g, i * 4 + 1, none⟩) HGB.out _).setCell (p := ⟨g, i * 4 + 2, none⟩) HGB.out _).setCell (p := ⟨g, i * 4 + 3, none⟩) HGB.out _)
  obtain ⟨⟨r0, r1, r2, r3⟩, s0, s1, s2, s3⟩ := ho3.four hi''
  obtain ⟨⟨v0, v1', v2, v3⟩, y0, y1', y2, y3⟩ := ho4.four hj4
  rw [parts_getD _ _ _ _ _ hi, hQI] at r0 r1 r2 r3
  rw [getD_set _ _ _ _ hi'', if_pos rfl] at v0 v1' v2 v3
  obtain ⟨b0, b1, b2, b3⟩ := hbx4.cells
  dsimp only at r0 r1 r2 r3 v0 v1' v2 v3 b0 b1 b2 b3 i0 i1 i2 i3
  have a2 := cell_at 2 HARR4.out
  simp at a2
  have a3 := cell_at 2 HARR3.out
  simp at a3
  have HSET := Lib.hid hset
  have HQQ := Lib.hid (And.intro hQI hQI)
  clear hset ho3 hbx ho4 hbx4 hQI  hpi
  go_wp2_with fail
  clear i0 i1 i2 i3 f0 f1 f2 f3 r0 r1 r2 r3 s0 s1 s2 s3  v0 v1' v2 v3 y0 y1' y2 y3 b0 b1 b2 b3 a2 a3
  have hset := HSET.out
  rw [← HQQ.out.1] at hset
  rw [show (parts A 7 k m).set i (partAt A 7 k m i) = parts A 7 k m by rw [← parts_getD A 7 k m i hi]; exact set_self _ _ hi'', show (parts A 7 k m).set i (partAt A 7 k m i) = parts A 7 k m by rw [← parts_getD A 7 k m i hi]; exact set_self _ _ hi''] at hset
  have HR := Lib.hid hset.rowOf
  clear hset
  refine (join_l _ _ _ (parts A 7 k m) _ HR.out.1 HR.out.2 HSS.out A 0 0 hc.out.join rfl).mono ?_
  rintro e w6 ⟨rfl, hb⟩
  have HBB2 := Lib.hid (HBB4.out.trans (hb.mono HBB4.out.size))
  clear hb
  go_wp2_with fail
  refine (fixed_any _).mono ?_
  rintro e w9 ⟨rfl, hb⟩
  have HBB9 := Lib.hid (HBB2.out.trans (hb.mono HBB2.out.size))
  clear hb
  go_wp2
  go_ret
  exact ⟨rfl, HBB9.out⟩

theorem walk (a1 : ByteArray) (y z0 z1 z2 : Int) (w : World) (w1 : a1.size ≤ maxLen) (h0 : (Lit.int .u8 y).wf = true) (h1 : (Lit.int .u8 z0).wf = true) (h2 : (Lit.int .u8 z1).wf = true) (h3 : (Lit.int .u8 z2).wf = true) :
    Calls Try.prog 7 #[.string a1, .int .u8 y, .agg #[.int .u8 z0, .int .u8 z1, .int .u8 z2]] w fun e w' => e = .returned (.bool true) ∧ Below w.heap.size w w' := by
  obtain ⟨A, m1, u1, v1, y1⟩ := slice_facts a1 1000
  have m2 : min (a1.size : Int) 1000 = A.size := m1
  obtain ⟨b0, b1⟩ := u8_range h0
  obtain ⟨c0, c1⟩ := u8_range h1
  obtain ⟨d0, d1⟩ := u8_range h2
  obtain ⟨f0, f1⟩ := u8_range h3
  obtain ⟨k, hk⟩ : ∃ k : Nat, 1 + y = (k : Int) := ⟨(1 + y).toNat, by omega⟩
  have hg : Good A 7 k := ⟨by decide, by decide, by omega, by omega, by omega⟩
  by_cases e0 : A.size = 0
  · exact walk0 a1 A y z0 z1 z2 k w b0 b1 c0 c1 d0 d1 f0 f1 m2 u1 v1 y1 w1 hk hg (Lib.hid e0)
  · by_cases e1 : 16 < many A.size k
    · exact walk4 a1 A y z0 z1 z2 k w b0 b1 c0 c1 d0 d1 f0 f1 m2 u1 v1 y1 w1 hk hg (Lib.hid e0) (Lib.hid e1)
    · obtain ⟨m, hm⟩ : ∃ m, many A.size k = m := ⟨_, rfl⟩
      have hc : Cutd A 7 k m := ⟨hg, e0, hm, by omega⟩
      by_cases h2m : 2 ≤ m
      · obtain ⟨i, hi⟩ : ∃ i : Nat, z0 % (m : Int) = (i : Int) := ⟨(z0 % (m : Int)).toNat, by have := Int.emod_nonneg z0 (show (m : Int) ≠ 0 by omega); omega⟩
        obtain ⟨j, hj⟩ : ∃ j : Nat, z1 % (m : Int) = (j : Int) := ⟨(z1 % (m : Int)).toNat, by have := Int.emod_nonneg z1 (show (m : Int) ≠ 0 by omega); omega⟩
        have hil : i < m := by have := Int.emod_lt_of_pos z0 (show (0 : Int) < m by omega); omega
        have hjl : j < m := by have := Int.emod_lt_of_pos z1 (show (0 : Int) < m by omega); omega
        have hz : z2 % 4 = 0 ∨ z2 % 4 = 1 ∨ z2 % 4 = 2 ∨ z2 % 4 = 3 := by omega
        rcases hz with hz | hz | hz | hz
        · by_cases hne : i = j
          · subst hne
            exact walkF a1 A y z0 z1 z2 k w b0 b1 c0 c1 d0 d1 f0 f1 m2 u1 v1 y1 w1 hk hg m (Lib.hid hc) i h2m hil hi hj hz
          · exact walkE a1 A y z0 z1 z2 k w b0 b1 c0 c1 d0 d1 f0 f1 m2 u1 v1 y1 w1 hk hg m (Lib.hid hc) i j h2m hil hjl hi hj hz hne
        · exact walkA a1 A y z0 z1 z2 k w b0 b1 c0 c1 d0 d1 f0 f1 m2 u1 v1 y1 w1 hk hg m (Lib.hid hc) i j h2m hil hjl hi hj hz
        · exact walkB a1 A y z0 z1 z2 k w b0 b1 c0 c1 d0 d1 f0 f1 m2 u1 v1 y1 w1 hk hg m (Lib.hid hc) i j h2m hil hjl hi hj hz
        · by_cases hne : i = j
          · subst hne
            exact walkD a1 A y z0 z1 z2 k w b0 b1 c0 c1 d0 d1 f0 f1 m2 u1 v1 y1 w1 hk hg m (Lib.hid hc) i h2m hil hi hj hz
          · exact walkC a1 A y z0 z1 z2 k w b0 b1 c0 c1 d0 d1 f0 f1 m2 u1 v1 y1 w1 hk hg m (Lib.hid hc) i j h2m hil hjl hi hj hz hne
      · exact walk1 a1 A y z0 z1 z2 k w b0 b1 c0 c1 d0 d1 f0 f1 m2 u1 v1 y1 w1 hk hg m (Lib.hid hc) (by have := hc.m1; omega)

set_option maxRecDepth 100000 in
theorem lifted (os : Os) (started : os.Started) (H : Type) (enc : TypeId × Value → H) :
    ReturnsInHanded {} Try.checked os 7 .any (Rows.splitSwapsSpec.pre6 enc Try.prog Try.f7 Rows.splitSwapsRow.domain false) (Rows.splitSwapsSpec.post enc Try.prog Try.f7 false true false false) := by
  refine returnsInHanded_of_change (C := Try.checked) own started (by kernel_rfl) Try.func7
    (ChangeSpec.witness6 (enc := enc) (C := Try.checked) false ⟨#[], #[.string ByteArray.empty, .int .u8 0, .agg #[.int .u8 0, .int .u8 0, .int .u8 0]], []⟩ 8 (by kernel_rfl) (by kernel_rfl) (by kernel_rfl) (by kernel_rfl)) ?_
  intro W base args ds gs before hval0 hW hcnd _
  have hval : ∀ (j : Nat) t v, Try.f7.params[j]? = some t → args[j]? = some v → Value.okWide Try.prog W .any base t v := hval0
  have hW' := hW
  obtain ⟨p, q, hA0, hV, rfl, hfz, hnd⟩ := hW
  have hA : DataW.TrodAll enc Try.prog W 0 (fun _ => true) true Try.f7.params.toList args.toList ds p := hA0
  rw [Try.params7] at hA hval
  obtain ⟨v0, vs0, d0, ds0, p0, q0, hargs, rfl, rfl, h0, r0⟩ := trodAll_cons hA
  obtain ⟨v1, vs1, d1, ds1, p1, q1, rfl, rfl, rfl, h1, r1⟩ := trodAll_cons r0
  obtain ⟨v2, vs2, d2, ds2, p2, q2, rfl, rfl, rfl, h2, r2⟩ := trodAll_cons r1
  obtain ⟨rfl, rfl, rfl⟩ := trodAll_nil r2
  obtain rfl : args = #[v0, v1, v2] := by cases args; simp_all
  obtain ⟨rfl, rfl⟩ := trodVars_none hV
  obtain ⟨a0, rfl, rfl, rfl, w0⟩ := open_string Try.underlying9 (hval 0 9 v0 rfl rfl) h0
  obtain ⟨a1, rfl, rfl, rfl, w1⟩ := open_int Try.underlying5 (hval 1 5 v1 rfl rfl) h1
  obtain ⟨cs2, rfl, hsz2⟩ : ∃ cs, v2 = .agg cs ∧ cs.size = Try.prog.cellsOf 55 := by
    have h := hval 2 55 v2 rfl rfl
    simp only [Value.okWide, Try.underlying55] at h
    obtain ⟨cs, e1, e2, _⟩ := h
    exact ⟨cs, e1, e2⟩
  have k2 := h2
  have lt2 : ∀ x ∈ p2, x.block < W.heap.size := by obtain ⟨m, hm⟩ := k2; exact DataW.trod_lt m _ _ _ hm
  obtain ⟨Z2, rfl, w2⟩ : ∃ Z : Nat → Int, cs2 = ((List.range 3).map fun j => Value.int .u8 (Z j)).toArray ∧ ∀ j, j < 3 → (Lit.int .u8 (Z j)).wf = true := by
    obtain ⟨fuel, hf⟩ := h2
    exact open_arrV Try.underlying55 Try.underlying5 (by kernel_rfl) (by kernel_rfl) hf
  clear hA0 hval0
  refine (walk a0 a1 (Z2 0) (Z2 1) (Z2 2) W w0 w1 (w2 0 (by omega)) (w2 1 (by omega)) (w2 2 (by omega))).mono fun e W' ⟨he, bel⟩ => ?_
  subst he
  exact ⟨_, rfl, _, _, _, [], _, [], hW', trodAll_mk1 (shut_bool Try.underlying4 _), (trodAll_cons_mk (shut_string Try.underlying9 w0) (trodAll_cons_mk (shut_int Try.underlying5 w1) (trodAll_cons_mk (Below.trod laidOut (by kernel_rfl) (of_decide_eq_true (by kernel_rfl)) k2 bel lt2) trodAll_mk0))), rfl, bel.frame _, fun h => by cases h⟩

theorem over : Rows.splitSwapsRow.holds Try.pinned (OpenSpec.ofChange Rows.splitSwapsSpec) :=
  OpenClaim.holds_of_wide 7 Try.f7 rfl rfl rfl rfl rfl rfl rfl ⟨rfl, rfl, rfl, rfl, rfl⟩ rfl rfl rfl rfl rfl (by kernel_rfl) Try.func7 (by kernel_rfl)
    (of_decide_eq_true (by kernel_rfl)) (by unfold Func.isWrapper; first | (rw [if_pos (by decide +kernel)]; kernel_rfl) | (rw [if_neg (by decide +kernel)]; exact ⟨rfl, rfl⟩))
    (fun os started H enc _ => lifted os started H enc)

theorem proved : Rows.SplitSwapsSaid := over
#print axioms proved
end Go.Proofs.Ytjimkkakcgdgfaa.splitSwaps
