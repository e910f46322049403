/- PoolApart: two messages whose parts come one by one in turns are both put together, each with its last part; a whole one passes between them. No condition. -/
import Derived.Test.YtjcgckhheegonaaRows
import Derived.Test.YtjcgckhheegonaaPoolX
import Derived.WalkKit
import Derived.ProofKit
import Derived.OpenShut
import Derived.ShutString
import Derived.ChangeOld
import Derived.Below
import Derived.Test.YtjcgckhheegonaaPoolH
namespace Go.Proofs.Ytjcgckhheegonaa.poolApart
open Go.ChangeShapes Go.WideShapes Go.ChangeAt Go.RowKit
open Go.ChangeMaps (open_string shut_string)
open Go.Proofs.Ytjcgckhheegonaa
set_option linter.unusedVariables false
set_option linter.unusedSimpArgs false
set_option maxRecDepth 20000

theorem own : ownKnob Try.prog.godebug = none := by kernel_rfl
theorem laidOut : laidOutB Try.prog = true := by kernel_rfl
theorem slice_facts (A : ByteArray) (k : Nat) : ∃ p : ByteArray, min (A.size : Int) k = p.size ∧ p.size ≤ A.size ∧ p.size ≤ k ∧ A.extract 0 p.size = p := by
  rcases Nat.le_total A.size k with h | h
  · exact ⟨A, by omega, Nat.le_refl _, h, by simp⟩
  · have e : (A.extract 0 k).size = k := by simp only [ByteArray.size_extract]; omega
    exact ⟨A.extract 0 k, by omega, by omega, by omega, by rw [e]⟩
theorem fro_cell {F : Nat → Prop} {w : World} {g n c : Nat} {fs : List Fr} (h : Fro F w (.slice (some ⟨g, 0, none⟩) n c) fs) {j : Nat} (hj : j < fs.length) :
    w.cell? ⟨g, j * 4, none⟩ = some (.int .u64 (fs.getD j zeroF).id) ∧ w.cell? ⟨g, j * 4 + 1, none⟩ = some (.int .i64 (fs.getD j zeroF).ix) ∧ w.cell? ⟨g, j * 4 + 2, none⟩ = some (.int .i64 (fs.getD j zeroF).ct) ∧ w.cell? ⟨g, j * 4 + 3, none⟩ = some (.string (fs.getD j zeroF).s) := by
  obtain ⟨a, c', hv, hr⟩ := h.at
  injection hv with e1 _ _
  subst e1
  obtain ⟨_, _, b, off, hr⟩ := hr
  obtain ⟨e2, x0, x1, x2, x3⟩ := hr j hj
  injection e2 with e2
  injection e2 with e3 e4
  subst e3 e4
  simp only [Nat.zero_add] at x0 x1 x2 x3
  exact ⟨x0, x1, x2, x3⟩
theorem fro_new {F : Nat → Prop} {w1 w2 : World} {base : Nat} {v : Value} {fs : List Fr} (hr : OwnF 35 base v fs w1) (hn : ∀ k, F k → w1.heap.size ≤ k) (hb : Below w1.heap.size w1 w2) : Fro F w2 v fs := ⟨⟨base, hr.below hb⟩, fun k hk q => by
  have := (World.ownsRow.lt hr k hk).2
  have := hn k q
  omega⟩
theorem part_is (s : ByteArray) (id : Int) (k m j : Nat) {t : ByteArray} (h : (partAt s id k m j).s = t) : partAt s id k m j = ⟨id, (j : Int), (m : Int), t⟩ := by rw [← h]; rfl
theorem wf_x : (⟨3, 0, 1, ⟨#[120]⟩⟩ : Fr).Wf := wf_of (by decide)
theorem empty_list {A : ByteArray} (h : A.size = 0) : A.toList.isEmpty = true := by
  rw [ByteArray.toList_eq]
  have : A.data.toList = [] := List.eq_nil_of_length_eq_zero (by rw [list_len]; exact h)
  rw [this]; rfl
theorem some_list {A : ByteArray} (h : A.size ≠ 0) : A.toList.isEmpty = false := by
  rw [ByteArray.toList_eq]
  cases hl : A.data.toList with
  | nil => exact absurd (by rw [← list_len, hl]; rfl) h
  | cons x r => rfl
/-- What is told of a message's next part. -/
theorem told {s : ByteArray} {m j : Nat} {P P' : Pl} {f : Fr} (h : addP f 9 P = (P', (if j + 1 = m then s else ⟨#[]⟩), decide (j + 1 = m), 0)) : (j + 1 = m → addP f 9 P = (P', s, true, 0)) ∧ (j + 1 ≠ m → addP f 9 P = (P', ⟨#[]⟩, false, 0)) :=
  ⟨fun e => by rw [h, if_pos e, decide_eq_true e], fun e => by rw [h, if_neg e, decide_eq_false e]⟩
def apL (A B : ByteArray) (k m n i j : Nat) : Pl := ⟨half A 3 k m i 9 ++ half B 4 k n j 9, 2, 400⟩
theorem step_a {A B : ByteArray} {k m n j : Nat} (hA : Cutd A 3 k m) (hB : Cutd B 4 k n) (sA : A.size ≤ 200) (sB : B.size ≤ 200) (hj : j < m) : addP (partAt A 3 k m j) 9 (apL A B k m n j j) = (apL A B k m n (j + 1) j, (if j + 1 = m then A else ⟨#[]⟩), decide (j + 1 = m), 0) := by
  have := half_step hA hj (pre := []) (post := half B 4 k n j 9) (slots := 2) (bytes := 400) (now := 9) (since := 9) (by decide) (fun x hx => by simp at hx) (half_not hB (by decide)) (by rw [List.nil_append]; exact half_young (by decide)) (fun e => by subst e; exact ⟨half_0, rfl⟩) (by have := half_len (s := B) (id := 4) (k := k) (m := n) (j := j) (since := 9); simp only [List.length_nil]; omega) (by have := half_held hB (j := j) (since := 9); simp only [heldM, List.foldr_nil] at this ⊢; omega) (by omega)
  exact this
theorem step_b {A B : ByteArray} {k m n j : Nat} (hA : Cutd A 3 k m) (hB : Cutd B 4 k n) (sA : A.size ≤ 200) (sB : B.size ≤ 200) (hj : j < n) : addP (partAt B 4 k n j) 9 (apL A B k m n (j + 1) j) = (apL A B k m n (j + 1) (j + 1), (if j + 1 = n then B else ⟨#[]⟩), decide (j + 1 = n), 0) := by
  have := half_step hB hj (pre := half A 3 k m (j + 1) 9) (post := []) (slots := 2) (bytes := 400) (now := 9) (since := 9) (by decide) (half_not hA (by decide)) (fun x hx => by simp at hx) (by rw [List.append_nil]; exact half_young (by decide)) (fun e => ⟨rfl, rfl⟩) (by have := half_len (s := A) (id := 3) (k := k) (m := m) (j := j + 1) (since := 9); simp only [List.length_nil]; omega) (by have := half_held hA (j := j + 1) (since := 9); simp only [heldM, List.foldr_nil] at this ⊢; omega) (by omega)
  rw [List.append_nil, List.append_nil] at this
  exact this
theorem step_x {A B : ByteArray} {k m n i j : Nat} : addP ⟨3, 0, 1, ⟨#[120]⟩⟩ 9 (apL A B k m n i j) = (apL A B k m n i j, ⟨#[120]⟩, true, 0) :=
  add_whole (by decide) rfl (Young.app (half_young (by decide)) (half_young (by decide)))
theorem no_a {A B : ByteArray} {k m n j : Nat} (h : m ≤ j) : apL A B k m n j j = apL A B k m n (j + 1) j := by unfold apL; rw [half_end (s := A) (id := 3) (k := k) (m := m) (j := j) h, half_end (s := A) (id := 3) (k := k) (m := m) (j := j + 1) (by omega)]
theorem no_b {A B : ByteArray} {k m n j : Nat} (h : n ≤ j) : apL A B k m n (j + 1) j = apL A B k m n (j + 1) (j + 1) := by unfold apL; rw [half_end (s := B) (id := 4) (k := k) (m := n) (j := j) h, half_end (s := B) (id := 4) (k := k) (m := n) (j := j + 1) (by omega)]
theorem many_16 {n k : Nat} (hk : 13 ≤ k) (hn : n ≤ 200) : many n k ≤ 16 := by
  have h1 : (n + k - 1) / k ≤ 16 := by
    refine Nat.le_of_lt_succ ((Nat.div_lt_iff_lt_mul (by omega)).2 ?_)
    omega
  exact h1
set_option maxHeartbeats 4000000 in
set_option maxRecDepth 100000 in
theorem walkEE (a0 A b0 B : ByteArray) (a2 : Int) (k : Nat) (w : World) (y20 : 0 ≤ a2) (y21 : a2 ≤ 255) (m2 : min (a0.size : Int) 200 = A.size) (uA : A.size ≤ a0.size) (vA : A.size ≤ 200) (yA : a0.extract 0 A.size = A) (wA : a0.size ≤ maxLen) (m3 : min (b0.size : Int) 200 = B.size) (uB : B.size ≤ b0.size) (vB : B.size ≤ 200) (yB : b0.extract 0 B.size = B) (wB : b0.size ≤ maxLen) (hk : 13 + a2 = (k : Int)) (m n : Nat) (HEA : Hid (A.size = 0)) (HEB : Hid (B.size = 0)) :
    Calls Try.prog 8 #[.string a0, .string b0, .int .u8 a2] w fun e w' => e = .returned (.bool true) ∧ Below w.heap.size w w' := by
  unfold maxLen at wA wB
  have hs8 : A.size ≤ 1000000 := by omega
  have hs9 : B.size ≤ 1000000 := by omega
  have n0 : (if (200 : Int) < (a0.size : Int) then (200 : Int) else (a0.size : Int)) = (A.size : Int) := by split <;> omega
  have n3 : (if (a0.size : Int) < (200 : Int) then (a0.size : Int) else (200 : Int)) = (A.size : Int) := by split <;> omega
  have n4 : (if (200 : Int) < (b0.size : Int) then (200 : Int) else (b0.size : Int)) = (B.size : Int) := by split <;> omega
  have n5 : (if (b0.size : Int) < (200 : Int) then (b0.size : Int) else (200 : Int)) = (B.size : Int) := by split <;> omega
  have HCA : Hid (cutF A 3 (k : Int) = (([] : List Fr), 1)) := Lib.hid (cut_none HEA.out)
  have HCB : Hid (cutF B 4 (k : Int) = (([] : List Fr), 1)) := Lib.hid (cut_none HEB.out)
  go_enter Try.func8, Try.ntmps8
  go_wp2_with fail
  refine (cut_x A 3 (k : Int) _ hs8 ([] : List Fr) 1 1 HCA.out rfl).mono ?_
  rintro e wa ⟨va, rfl, hoa, hba⟩
  have HBA := Lib.hid hba
  go_wp2_with fail
  refine (cut_x B 4 (k : Int) _ hs9 ([] : List Fr) 1 1 HCB.out rfl).mono ?_
  rintro e wb ⟨vb, rfl, hob, hbb⟩
  have HBB := Lib.hid (hba.trans (hbb.mono hba.size))
  have tA := empty_list HEA.out
  have tB := empty_list HEB.out
  clear hba hbb hoa hob
  go_wp2_with fail
  refine (new_s 2 400 w wb HBB.out ⟨by decide, by decide, by decide, by decide⟩).mono ?_
  rintro e wc ⟨p, F, rfl, ha, hn, hb⟩
  have HA := Lib.hid ha
  clear ha hn hb
  go_wp2_with fail
  refine (fixed_any _).mono ?_
  rintro e wz ⟨rfl, hb⟩
  have HZ := Lib.hid (HA.out.below hb)
  clear hb
  go_wp2_with fail
  go_ret
  exact ⟨rfl, HZ.out.low⟩
set_option maxHeartbeats 4000000 in
set_option maxRecDepth 100000 in
theorem walkEN (a0 A b0 B : ByteArray) (a2 : Int) (k : Nat) (w : World) (y20 : 0 ≤ a2) (y21 : a2 ≤ 255) (m2 : min (a0.size : Int) 200 = A.size) (uA : A.size ≤ a0.size) (vA : A.size ≤ 200) (yA : a0.extract 0 A.size = A) (wA : a0.size ≤ maxLen) (m3 : min (b0.size : Int) 200 = B.size) (uB : B.size ≤ b0.size) (vB : B.size ≤ 200) (yB : b0.extract 0 B.size = B) (wB : b0.size ≤ maxLen) (hk : 13 + a2 = (k : Int)) (m n : Nat) (HEA : Hid (A.size = 0)) (HEB : Hid (B.size ≠ 0)) (HDB : Hid (Cutd B 4 k n)) :
    Calls Try.prog 8 #[.string a0, .string b0, .int .u8 a2] w fun e w' => e = .returned (.bool true) ∧ Below w.heap.size w w' := by
  unfold maxLen at wA wB
  have hs8 : A.size ≤ 1000000 := by omega
  have hs9 : B.size ≤ 1000000 := by omega
  have n0 : (if (200 : Int) < (a0.size : Int) then (200 : Int) else (a0.size : Int)) = (A.size : Int) := by split <;> omega
  have n3 : (if (a0.size : Int) < (200 : Int) then (a0.size : Int) else (200 : Int)) = (A.size : Int) := by split <;> omega
  have n4 : (if (200 : Int) < (b0.size : Int) then (200 : Int) else (b0.size : Int)) = (B.size : Int) := by split <;> omega
  have n5 : (if (b0.size : Int) < (200 : Int) then (b0.size : Int) else (200 : Int)) = (B.size : Int) := by split <;> omega
  have HCA : Hid (cutF A 3 (k : Int) = (([] : List Fr), 1)) := Lib.hid (cut_none HEA.out)
  have HCB : Hid (cutF B 4 (k : Int) = ((parts B 4 k n), 0)) := Lib.hid (by rw [← HDB.out.hm]; exact cut_parts HDB.out.toGood HDB.out.s1 (by have := HDB.out.m2; have := HDB.out.hm; omega))
  go_enter Try.func8, Try.ntmps8
  go_wp2_with fail
  refine (cut_x A 3 (k : Int) _ hs8 ([] : List Fr) 1 1 HCA.out rfl).mono ?_
  rintro e wa ⟨va, rfl, hoa, hba⟩
  have HBA := Lib.hid hba
  go_wp2_with fail
  refine (cut_x B 4 (k : Int) _ hs9 (parts B 4 k n) 0 0 HCB.out rfl).mono ?_
  rintro e wb ⟨vb, rfl, hob, hbb⟩
  have HBB := Lib.hid (hba.trans (hbb.mono hba.size))
  have tA := empty_list HEA.out
  have tB := some_list HEB.out
  clear hba hbb hoa hob
  go_wp2_with fail
  refine (new_s 2 400 w wb HBB.out ⟨by decide, by decide, by decide, by decide⟩).mono ?_
  rintro e wc ⟨p, F, rfl, ha, hn, hb⟩
  have HA := Lib.hid ha
  clear ha hn hb
  go_wp2_with fail
  refine (fixed_any _).mono ?_
  rintro e wz ⟨rfl, hb⟩
  have HZ := Lib.hid (HA.out.below hb)
  clear hb
  go_wp2_with fail
  go_ret
  exact ⟨rfl, HZ.out.low⟩
set_option maxHeartbeats 4000000 in
set_option maxRecDepth 100000 in
theorem walkNE (a0 A b0 B : ByteArray) (a2 : Int) (k : Nat) (w : World) (y20 : 0 ≤ a2) (y21 : a2 ≤ 255) (m2 : min (a0.size : Int) 200 = A.size) (uA : A.size ≤ a0.size) (vA : A.size ≤ 200) (yA : a0.extract 0 A.size = A) (wA : a0.size ≤ maxLen) (m3 : min (b0.size : Int) 200 = B.size) (uB : B.size ≤ b0.size) (vB : B.size ≤ 200) (yB : b0.extract 0 B.size = B) (wB : b0.size ≤ maxLen) (hk : 13 + a2 = (k : Int)) (m n : Nat) (HEA : Hid (A.size ≠ 0)) (HEB : Hid (B.size = 0)) (HDA : Hid (Cutd A 3 k m)) :
    Calls Try.prog 8 #[.string a0, .string b0, .int .u8 a2] w fun e w' => e = .returned (.bool true) ∧ Below w.heap.size w w' := by
  unfold maxLen at wA wB
  have hs8 : A.size ≤ 1000000 := by omega
  have hs9 : B.size ≤ 1000000 := by omega
  have n0 : (if (200 : Int) < (a0.size : Int) then (200 : Int) else (a0.size : Int)) = (A.size : Int) := by split <;> omega
  have n3 : (if (a0.size : Int) < (200 : Int) then (a0.size : Int) else (200 : Int)) = (A.size : Int) := by split <;> omega
  have n4 : (if (200 : Int) < (b0.size : Int) then (200 : Int) else (b0.size : Int)) = (B.size : Int) := by split <;> omega
  have n5 : (if (b0.size : Int) < (200 : Int) then (b0.size : Int) else (200 : Int)) = (B.size : Int) := by split <;> omega
  have HCA : Hid (cutF A 3 (k : Int) = ((parts A 3 k m), 0)) := Lib.hid (by rw [← HDA.out.hm]; exact cut_parts HDA.out.toGood HDA.out.s1 (by have := HDA.out.m2; have := HDA.out.hm; omega))
  have HCB : Hid (cutF B 4 (k : Int) = (([] : List Fr), 1)) := Lib.hid (cut_none HEB.out)
  go_enter Try.func8, Try.ntmps8
  go_wp2_with fail
  refine (cut_x A 3 (k : Int) _ hs8 (parts A 3 k m) 0 0 HCA.out rfl).mono ?_
  rintro e wa ⟨va, rfl, hoa, hba⟩
  have HBA := Lib.hid hba
  go_wp2_with fail
  refine (cut_x B 4 (k : Int) _ hs9 ([] : List Fr) 1 1 HCB.out rfl).mono ?_
  rintro e wb ⟨vb, rfl, hob, hbb⟩
  have HBB := Lib.hid (hba.trans (hbb.mono hba.size))
  have tA := some_list HEA.out
  have tB := empty_list HEB.out
  clear hba hbb hoa hob
  go_wp2_with fail
  refine (new_s 2 400 w wb HBB.out ⟨by decide, by decide, by decide, by decide⟩).mono ?_
  rintro e wc ⟨p, F, rfl, ha, hn, hb⟩
  have HA := Lib.hid ha
  clear ha hn hb
  go_wp2_with fail
  refine (fixed_any _).mono ?_
  rintro e wz ⟨rfl, hb⟩
  have HZ := Lib.hid (HA.out.below hb)
  clear hb
  go_wp2_with fail
  go_ret
  exact ⟨rfl, HZ.out.low⟩
set_option maxHeartbeats 4000000 in
set_option maxRecDepth 100000 in
theorem walkNN (a0 A b0 B : ByteArray) (a2 : Int) (k : Nat) (w : World) (y20 : 0 ≤ a2) (y21 : a2 ≤ 255) (m2 : min (a0.size : Int) 200 = A.size) (uA : A.size ≤ a0.size) (vA : A.size ≤ 200) (yA : a0.extract 0 A.size = A) (wA : a0.size ≤ maxLen) (m3 : min (b0.size : Int) 200 = B.size) (uB : B.size ≤ b0.size) (vB : B.size ≤ 200) (yB : b0.extract 0 B.size = B) (wB : b0.size ≤ maxLen) (hk : 13 + a2 = (k : Int)) (m n : Nat) (HDA : Hid (Cutd A 3 k m)) (HDB : Hid (Cutd B 4 k n)) :
    Calls Try.prog 8 #[.string a0, .string b0, .int .u8 a2] w fun e w' => e = .returned (.bool true) ∧ Below w.heap.size w w' := by
  unfold maxLen at wA wB
  have hs8 : A.size ≤ 1000000 := by omega
  have hs9 : B.size ≤ 1000000 := by omega
  have n0 : (if (200 : Int) < (a0.size : Int) then (200 : Int) else (a0.size : Int)) = (A.size : Int) := by split <;> omega
  have n3 : (if (a0.size : Int) < (200 : Int) then (a0.size : Int) else (200 : Int)) = (A.size : Int) := by split <;> omega
  have n4 : (if (200 : Int) < (b0.size : Int) then (200 : Int) else (b0.size : Int)) = (B.size : Int) := by split <;> omega
  have n5 : (if (b0.size : Int) < (200 : Int) then (b0.size : Int) else (200 : Int)) = (B.size : Int) := by split <;> omega
  have HCA : Hid (cutF A 3 (k : Int) = ((parts A 3 k m), 0)) := Lib.hid (by rw [← HDA.out.hm]; exact cut_parts HDA.out.toGood HDA.out.s1 (by have := HDA.out.m2; have := HDA.out.hm; omega))
  have HCB : Hid (cutF B 4 (k : Int) = ((parts B 4 k n), 0)) := Lib.hid (by rw [← HDB.out.hm]; exact cut_parts HDB.out.toGood HDB.out.s1 (by have := HDB.out.m2; have := HDB.out.hm; omega))
  go_enter Try.func8, Try.ntmps8
  go_wp2_with fail
  refine (cut_x A 3 (k : Int) _ hs8 (parts A 3 k m) 0 0 HCA.out rfl).mono ?_
  rintro e wa ⟨va, rfl, hoa, hba⟩
  have HBA := Lib.hid hba
  obtain ⟨ga, ca, hva⟩ := hoa.form (by intro q; have h9 := parts_len A 3 k m; rw [q] at h9; simp at h9; have := HDA.out.m1; omega)
  rw [parts_len] at hva
  subst hva
  go_wp2_with fail
  refine (cut_x B 4 (k : Int) _ hs9 (parts B 4 k n) 0 0 HCB.out rfl).mono ?_
  rintro e wb ⟨vb, rfl, hob, hbb⟩
  have HBB := Lib.hid (hba.trans (hbb.mono hba.size))
  obtain ⟨gb, cb, hvb⟩ := hob.form (by intro q; have h9 := parts_len B 4 k n; rw [q] at h9; simp at h9; have := HDB.out.m1; omega)
  rw [parts_len] at hvb
  subst hvb
  go_wp2_with fail
  refine (new_s 2 400 w wb HBB.out ⟨by decide, by decide, by decide, by decide⟩).mono ?_
  rintro e wc ⟨p, F, rfl, ha, hn, hb⟩
  have hfa := fro_new (hoa.below hbb) hn hb
  have hfb := fro_new hob hn hb
  have HX : Hid (Px w F wc p (apL A B k m n 0 0) (.slice (some ⟨ga, 0, none⟩) m ca) (.slice (some ⟨gb, 0, none⟩) n cb) (parts A 3 k m) (parts B 4 k n)) := Lib.hid ⟨ha, hfa, hfb⟩
  obtain ⟨hc1, hc2⟩ := hfa.cap (by rw [parts_len])
  obtain ⟨hc3, hc4⟩ := hfb.cap (by rw [parts_len])
  have HVA := Lib.hid vA
  have HVB := Lib.hid vB
  have hm16 := HDA.out.m2
  have hn16 := HDB.out.m2
  clear ha hn hb hfa hfb hoa hob HBA HBB hba hbb HCA HCB n0 n3 n4 n5 hk m2 m3 uA uB yA yB wA wB hs8 hs9 vA vB
  obtain ⟨m1, hm1⟩ : ∃ m1, m = m1 + 1 := ⟨m - 1, by have := HDA.out.m1; omega⟩
  obtain ⟨n1, hn1⟩ : ∃ n1, n = n1 + 1 := ⟨n - 1, by have := HDB.out.m1; omega⟩
  have e1 : (m : Int) - 1 = (m1 : Int) := by omega
  have e2 : (n : Int) - 1 = (n1 : Int) := by omega
  have HM := Lib.hid (And.intro hm1 hn1)
  have hm17 : (m : Int) ≤ 16 := by omega
  have hn17 : (n : Int) ≤ 16 := by omega
  clear hm1 hn1
  go_wp2_with fail
  go_loopw [13] (fun i wr => ∃ (j : Nat) (F : Nat → Prop), j ≤ max m n ∧ i = .int .i64 (j : Nat) ∧ Hid (Px w F wr p (apL A B k m n j j) (.slice (some ⟨ga, 0, none⟩) m ca) (.slice (some ⟨gb, 0, none⟩) n cb) (parts A 3 k m) (parts B 4 k n))) (fun i _ => max m n - (intOf i).toNat)
  case atStart => exact ⟨0, F, Nat.zero_le _, rfl, HX⟩
  case round =>
    clear HX F
    obtain ⟨j, F, hj, rfl, HX⟩ := hrel
    have hmc := HM.out.1
    have hnc := HM.out.2
    by_cases hja : j < m
    · have a1 : (j : Int) < (m : Int) := by omega
      by_cases hla : j = m1
      · by_cases hjb : j < n
        · have b1 : (j : Int) < (n : Int) := by omega
          by_cases hlb : j = n1
          · have HJM := Lib.hid hj
            obtain ⟨sa, hsa⟩ : ∃ t, (partAt A 3 k m j).s = t := ⟨_, rfl⟩
            have hpa := part_is A 3 k m j hsa
            have hada := step_a HDA.out HDB.out HVA.out HVB.out (j := j) hja
            rw [hpa] at hada
            have HADa := Lib.hid ((told hada).1 (by omega))
            have hwa := right_wf (HDA.out.right (i := j) hja)
            have hza := (HDA.out.le (i := j) hja).1
            rw [hpa] at hwa hza
            have HWa : Hid (sa.size ≤ 1000000 ∧ (⟨3, (j : Int), (m : Int), sa⟩ : Fr).Wf) := Lib.hid ⟨by have := HDA.out.k2; simp only at hza; omega, hwa⟩
            have HPa := Lib.hid hpa
            have HJa := Lib.hid hja
            have qa : ((j : Int) == (m1 : Int)) = true := by rw [beq_iff_eq]; omega
            have da : (j == m1) = true := by rw [beq_iff_eq]; omega
            have ia : decide (j = m1) = true := by exact decide_eq_true (by omega)
            clear hsa hada hwa hza hpa
            obtain ⟨sb, hsb⟩ : ∃ t, (partAt B 4 k n j).s = t := ⟨_, rfl⟩
            have hpb := part_is B 4 k n j hsb
            have hadb := step_b HDA.out HDB.out HVA.out HVB.out (j := j) hjb
            rw [hpb] at hadb
            have HADb := Lib.hid ((told hadb).1 (by omega))
            have hwb := right_wf (HDB.out.right (i := j) hjb)
            have hzb := (HDB.out.le (i := j) hjb).1
            rw [hpb] at hwb hzb
            have HWb : Hid (sb.size ≤ 1000000 ∧ (⟨4, (j : Int), (n : Int), sb⟩ : Fr).Wf) := Lib.hid ⟨by have := HDB.out.k2; simp only at hzb; omega, hwb⟩
            have HPb := Lib.hid hpb
            have HJb := Lib.hid hjb
            have qb : ((j : Int) == (n1 : Int)) = true := by rw [beq_iff_eq]; omega
            have db : (j == n1) = true := by rw [beq_iff_eq]; omega
            have ib : decide (j = n1) = true := by exact decide_eq_true (by omega)
            clear hsb hadb hwb hzb hpb
            have tA : (A.toList == A.toList) = true := by simp
            have tB : (B.toList == B.toList) = true := by simp
            have HMX : Hid (j + 1 ≤ max m n ∧ j < max m n) := Lib.hid (by omega)
            clear hj hmc hnc
            clear hja hla
            clear hjb hlb
            have hca := fro_cell HX.out.one (j := j) (by rw [parts_len]; exact HJa.out)
            rw [parts_getD _ _ _ _ _ HJa.out, HPa.out] at hca
            obtain ⟨r0a, r1a, r2a, r3a⟩ := hca
            go_wp2_with fail
            clear r0a r1a r2a r3a
            refine (add_x HX.out ⟨3, (j : Int), (m : Int), sa⟩ 9 _ _ _ _ _ 0 HWa.out.1 HWa.out.2 ⟨by decide, by decide⟩ rfl HADa.out rfl).mono ?_
            rintro e wd ⟨F2, rfl, hx⟩
            have HX2 := Lib.hid hx
            clear hx
            go_wp2_with fail
            refine (add_x HX2.out ⟨3, 0, 1, ⟨#[120]⟩⟩ 9 _ _ _ _ _ 0 (by decide) wf_x ⟨by decide, by decide⟩ rfl step_x rfl).mono ?_
            rintro e we ⟨F3, rfl, hx⟩
            have HX3 := Lib.hid hx
            clear hx
            have hcb := fro_cell HX3.out.two (j := j) (by rw [parts_len]; exact HJb.out)
            rw [parts_getD _ _ _ _ _ HJb.out, HPb.out] at hcb
            obtain ⟨r0b, r1b, r2b, r3b⟩ := hcb
            go_wp2_with fail
            clear r0b r1b r2b r3b
            refine (add_x HX3.out ⟨4, (j : Int), (n : Int), sb⟩ 9 _ _ _ _ _ 0 HWb.out.1 HWb.out.2 ⟨by decide, by decide⟩ rfl HADb.out rfl).mono ?_
            rintro e wf ⟨F4, rfl, hx⟩
            have HX4 := Lib.hid hx
            clear hx
            go_wp2_with fail
            go_roundw
            case rel => exact ⟨j + 1, F4, HMX.out.1, by go_num, HX4⟩
            case measure => have := HMX.out.2; simp [intOf]; omega
          · have HJM := Lib.hid hj
            obtain ⟨sa, hsa⟩ : ∃ t, (partAt A 3 k m j).s = t := ⟨_, rfl⟩
            have hpa := part_is A 3 k m j hsa
            have hada := step_a HDA.out HDB.out HVA.out HVB.out (j := j) hja
            rw [hpa] at hada
            have HADa := Lib.hid ((told hada).1 (by omega))
            have hwa := right_wf (HDA.out.right (i := j) hja)
            have hza := (HDA.out.le (i := j) hja).1
            rw [hpa] at hwa hza
            have HWa : Hid (sa.size ≤ 1000000 ∧ (⟨3, (j : Int), (m : Int), sa⟩ : Fr).Wf) := Lib.hid ⟨by have := HDA.out.k2; simp only at hza; omega, hwa⟩
            have HPa := Lib.hid hpa
            have HJa := Lib.hid hja
            have qa : ((j : Int) == (m1 : Int)) = true := by rw [beq_iff_eq]; omega
            have da : (j == m1) = true := by rw [beq_iff_eq]; omega
            have ia : decide (j = m1) = true := by exact decide_eq_true (by omega)
            clear hsa hada hwa hza hpa
            obtain ⟨sb, hsb⟩ : ∃ t, (partAt B 4 k n j).s = t := ⟨_, rfl⟩
            have hpb := part_is B 4 k n j hsb
            have hadb := step_b HDA.out HDB.out HVA.out HVB.out (j := j) hjb
            rw [hpb] at hadb
            have HADb := Lib.hid ((told hadb).2 (by omega))
            have hwb := right_wf (HDB.out.right (i := j) hjb)
            have hzb := (HDB.out.le (i := j) hjb).1
            rw [hpb] at hwb hzb
            have HWb : Hid (sb.size ≤ 1000000 ∧ (⟨4, (j : Int), (n : Int), sb⟩ : Fr).Wf) := Lib.hid ⟨by have := HDB.out.k2; simp only at hzb; omega, hwb⟩
            have HPb := Lib.hid hpb
            have HJb := Lib.hid hjb
            have qb : ((j : Int) == (n1 : Int)) = false := by simp; omega
            have db : (j == n1) = false := by simp; omega
            have ib : decide (j = n1) = false := by exact decide_eq_false (by omega)
            clear hsb hadb hwb hzb hpb
            have tA : (A.toList == A.toList) = true := by simp
            have tB : (B.toList == B.toList) = true := by simp
            have HMX : Hid (j + 1 ≤ max m n ∧ j < max m n) := Lib.hid (by omega)
            clear hj hmc hnc
            clear hja hla
            clear hjb hlb
            have hca := fro_cell HX.out.one (j := j) (by rw [parts_len]; exact HJa.out)
            rw [parts_getD _ _ _ _ _ HJa.out, HPa.out] at hca
            obtain ⟨r0a, r1a, r2a, r3a⟩ := hca
            go_wp2_with fail
            clear r0a r1a r2a r3a
            refine (add_x HX.out ⟨3, (j : Int), (m : Int), sa⟩ 9 _ _ _ _ _ 0 HWa.out.1 HWa.out.2 ⟨by decide, by decide⟩ rfl HADa.out rfl).mono ?_
            rintro e wd ⟨F2, rfl, hx⟩
            have HX2 := Lib.hid hx
            clear hx
            go_wp2_with fail
            refine (add_x HX2.out ⟨3, 0, 1, ⟨#[120]⟩⟩ 9 _ _ _ _ _ 0 (by decide) wf_x ⟨by decide, by decide⟩ rfl step_x rfl).mono ?_
            rintro e we ⟨F3, rfl, hx⟩
            have HX3 := Lib.hid hx
            clear hx
            have hcb := fro_cell HX3.out.two (j := j) (by rw [parts_len]; exact HJb.out)
            rw [parts_getD _ _ _ _ _ HJb.out, HPb.out] at hcb
            obtain ⟨r0b, r1b, r2b, r3b⟩ := hcb
            go_wp2_with fail
            clear r0b r1b r2b r3b
            refine (add_x HX3.out ⟨4, (j : Int), (n : Int), sb⟩ 9 _ _ _ _ _ 0 HWb.out.1 HWb.out.2 ⟨by decide, by decide⟩ rfl HADb.out rfl).mono ?_
            rintro e wf ⟨F4, rfl, hx⟩
            have HX4 := Lib.hid hx
            clear hx
            go_wp2_with fail
            go_roundw
            case rel => exact ⟨j + 1, F4, HMX.out.1, by go_num, HX4⟩
            case measure => have := HMX.out.2; simp [intOf]; omega
        · have HJM := Lib.hid hj
          obtain ⟨sa, hsa⟩ : ∃ t, (partAt A 3 k m j).s = t := ⟨_, rfl⟩
          have hpa := part_is A 3 k m j hsa
          have hada := step_a HDA.out HDB.out HVA.out HVB.out (j := j) hja
          rw [hpa] at hada
          have HADa := Lib.hid ((told hada).1 (by omega))
          have hwa := right_wf (HDA.out.right (i := j) hja)
          have hza := (HDA.out.le (i := j) hja).1
          rw [hpa] at hwa hza
          have HWa : Hid (sa.size ≤ 1000000 ∧ (⟨3, (j : Int), (m : Int), sa⟩ : Fr).Wf) := Lib.hid ⟨by have := HDA.out.k2; simp only at hza; omega, hwa⟩
          have HPa := Lib.hid hpa
          have HJa := Lib.hid hja
          have qa : ((j : Int) == (m1 : Int)) = true := by rw [beq_iff_eq]; omega
          have da : (j == m1) = true := by rw [beq_iff_eq]; omega
          have ia : decide (j = m1) = true := by exact decide_eq_true (by omega)
          clear hsa hada hwa hza hpa
          have tA : (A.toList == A.toList) = true := by simp
          have tB : (B.toList == B.toList) = true := by simp
          have HMX : Hid (j + 1 ≤ max m n ∧ j < max m n) := Lib.hid (by omega)
          have HNB : Hid (n ≤ j) := Lib.hid (by omega)
          have b1 : ¬ (j : Int) < (n : Int) := by omega
          have kb : decide (j < n) = false := decide_eq_false (by omega)
          clear hj hmc hnc
          clear hja hla
          clear hjb
          have hca := fro_cell HX.out.one (j := j) (by rw [parts_len]; exact HJa.out)
          rw [parts_getD _ _ _ _ _ HJa.out, HPa.out] at hca
          obtain ⟨r0a, r1a, r2a, r3a⟩ := hca
          go_wp2_with fail
          clear r0a r1a r2a r3a
          refine (add_x HX.out ⟨3, (j : Int), (m : Int), sa⟩ 9 _ _ _ _ _ 0 HWa.out.1 HWa.out.2 ⟨by decide, by decide⟩ rfl HADa.out rfl).mono ?_
          rintro e wd ⟨F2, rfl, hx⟩
          have HX2 := Lib.hid hx
          clear hx
          go_wp2_with fail
          refine (add_x HX2.out ⟨3, 0, 1, ⟨#[120]⟩⟩ 9 _ _ _ _ _ 0 (by decide) wf_x ⟨by decide, by decide⟩ rfl step_x rfl).mono ?_
          rintro e we ⟨F3, rfl, hx⟩
          have HX3 := Lib.hid hx
          clear hx
          have HX4 : Hid (Px w F3 we p (apL A B k m n (j + 1) (j + 1)) (.slice (some ⟨ga, 0, none⟩) m ca) (.slice (some ⟨gb, 0, none⟩) n cb) (parts A 3 k m) (parts B 4 k n)) := Lib.hid (by rw [← no_b HNB.out]; exact HX3.out)
          go_wp2_with fail
          go_roundw
          case rel => exact ⟨j + 1, F3, HMX.out.1, by go_num, HX4⟩
          case measure => have := HMX.out.2; simp [intOf]; omega
      · by_cases hjb : j < n
        · have b1 : (j : Int) < (n : Int) := by omega
          by_cases hlb : j = n1
          · have HJM := Lib.hid hj
            obtain ⟨sa, hsa⟩ : ∃ t, (partAt A 3 k m j).s = t := ⟨_, rfl⟩
            have hpa := part_is A 3 k m j hsa
            have hada := step_a HDA.out HDB.out HVA.out HVB.out (j := j) hja
            rw [hpa] at hada
            have HADa := Lib.hid ((told hada).2 (by omega))
            have hwa := right_wf (HDA.out.right (i := j) hja)
            have hza := (HDA.out.le (i := j) hja).1
            rw [hpa] at hwa hza
            have HWa : Hid (sa.size ≤ 1000000 ∧ (⟨3, (j : Int), (m : Int), sa⟩ : Fr).Wf) := Lib.hid ⟨by have := HDA.out.k2; simp only at hza; omega, hwa⟩
            have HPa := Lib.hid hpa
            have HJa := Lib.hid hja
            have qa : ((j : Int) == (m1 : Int)) = false := by simp; omega
            have da : (j == m1) = false := by simp; omega
            have ia : decide (j = m1) = false := by exact decide_eq_false (by omega)
            clear hsa hada hwa hza hpa
            obtain ⟨sb, hsb⟩ : ∃ t, (partAt B 4 k n j).s = t := ⟨_, rfl⟩
            have hpb := part_is B 4 k n j hsb
            have hadb := step_b HDA.out HDB.out HVA.out HVB.out (j := j) hjb
            rw [hpb] at hadb
            have HADb := Lib.hid ((told hadb).1 (by omega))
            have hwb := right_wf (HDB.out.right (i := j) hjb)
            have hzb := (HDB.out.le (i := j) hjb).1
            rw [hpb] at hwb hzb
            have HWb : Hid (sb.size ≤ 1000000 ∧ (⟨4, (j : Int), (n : Int), sb⟩ : Fr).Wf) := Lib.hid ⟨by have := HDB.out.k2; simp only at hzb; omega, hwb⟩
            have HPb := Lib.hid hpb
            have HJb := Lib.hid hjb
            have qb : ((j : Int) == (n1 : Int)) = true := by rw [beq_iff_eq]; omega
            have db : (j == n1) = true := by rw [beq_iff_eq]; omega
            have ib : decide (j = n1) = true := by exact decide_eq_true (by omega)
            clear hsb hadb hwb hzb hpb
            have tA : (A.toList == A.toList) = true := by simp
            have tB : (B.toList == B.toList) = true := by simp
            have HMX : Hid (j + 1 ≤ max m n ∧ j < max m n) := Lib.hid (by omega)
            clear hj hmc hnc
            clear hja hla
            clear hjb hlb
            have hca := fro_cell HX.out.one (j := j) (by rw [parts_len]; exact HJa.out)
            rw [parts_getD _ _ _ _ _ HJa.out, HPa.out] at hca
            obtain ⟨r0a, r1a, r2a, r3a⟩ := hca
            go_wp2_with fail
            clear r0a r1a r2a r3a
            refine (add_x HX.out ⟨3, (j : Int), (m : Int), sa⟩ 9 _ _ _ _ _ 0 HWa.out.1 HWa.out.2 ⟨by decide, by decide⟩ rfl HADa.out rfl).mono ?_
            rintro e wd ⟨F2, rfl, hx⟩
            have HX2 := Lib.hid hx
            clear hx
            go_wp2_with fail
            refine (add_x HX2.out ⟨3, 0, 1, ⟨#[120]⟩⟩ 9 _ _ _ _ _ 0 (by decide) wf_x ⟨by decide, by decide⟩ rfl step_x rfl).mono ?_
            rintro e we ⟨F3, rfl, hx⟩
            have HX3 := Lib.hid hx
            clear hx
            have hcb := fro_cell HX3.out.two (j := j) (by rw [parts_len]; exact HJb.out)
            rw [parts_getD _ _ _ _ _ HJb.out, HPb.out] at hcb
            obtain ⟨r0b, r1b, r2b, r3b⟩ := hcb
            go_wp2_with fail
            clear r0b r1b r2b r3b
            refine (add_x HX3.out ⟨4, (j : Int), (n : Int), sb⟩ 9 _ _ _ _ _ 0 HWb.out.1 HWb.out.2 ⟨by decide, by decide⟩ rfl HADb.out rfl).mono ?_
            rintro e wf ⟨F4, rfl, hx⟩
            have HX4 := Lib.hid hx
            clear hx
            go_wp2_with fail
            go_roundw
            case rel => exact ⟨j + 1, F4, HMX.out.1, by go_num, HX4⟩
            case measure => have := HMX.out.2; simp [intOf]; omega
          · have HJM := Lib.hid hj
            obtain ⟨sa, hsa⟩ : ∃ t, (partAt A 3 k m j).s = t := ⟨_, rfl⟩
            have hpa := part_is A 3 k m j hsa
            have hada := step_a HDA.out HDB.out HVA.out HVB.out (j := j) hja
            rw [hpa] at hada
            have HADa := Lib.hid ((told hada).2 (by omega))
            have hwa := right_wf (HDA.out.right (i := j) hja)
            have hza := (HDA.out.le (i := j) hja).1
            rw [hpa] at hwa hza
            have HWa : Hid (sa.size ≤ 1000000 ∧ (⟨3, (j : Int), (m : Int), sa⟩ : Fr).Wf) := Lib.hid ⟨by have := HDA.out.k2; simp only at hza; omega, hwa⟩
            have HPa := Lib.hid hpa
            have HJa := Lib.hid hja
            have qa : ((j : Int) == (m1 : Int)) = false := by simp; omega
            have da : (j == m1) = false := by simp; omega
            have ia : decide (j = m1) = false := by exact decide_eq_false (by omega)
            clear hsa hada hwa hza hpa
            obtain ⟨sb, hsb⟩ : ∃ t, (partAt B 4 k n j).s = t := ⟨_, rfl⟩
            have hpb := part_is B 4 k n j hsb
            have hadb := step_b HDA.out HDB.out HVA.out HVB.out (j := j) hjb
            rw [hpb] at hadb
            have HADb := Lib.hid ((told hadb).2 (by omega))
            have hwb := right_wf (HDB.out.right (i := j) hjb)
            have hzb := (HDB.out.le (i := j) hjb).1
            rw [hpb] at hwb hzb
            have HWb : Hid (sb.size ≤ 1000000 ∧ (⟨4, (j : Int), (n : Int), sb⟩ : Fr).Wf) := Lib.hid ⟨by have := HDB.out.k2; simp only at hzb; omega, hwb⟩
            have HPb := Lib.hid hpb
            have HJb := Lib.hid hjb
            have qb : ((j : Int) == (n1 : Int)) = false := by simp; omega
            have db : (j == n1) = false := by simp; omega
            have ib : decide (j = n1) = false := by exact decide_eq_false (by omega)
            clear hsb hadb hwb hzb hpb
            have tA : (A.toList == A.toList) = true := by simp
            have tB : (B.toList == B.toList) = true := by simp
            have HMX : Hid (j + 1 ≤ max m n ∧ j < max m n) := Lib.hid (by omega)
            clear hj hmc hnc
            clear hja hla
            clear hjb hlb
            have hca := fro_cell HX.out.one (j := j) (by rw [parts_len]; exact HJa.out)
            rw [parts_getD _ _ _ _ _ HJa.out, HPa.out] at hca
            obtain ⟨r0a, r1a, r2a, r3a⟩ := hca
            go_wp2_with fail
            clear r0a r1a r2a r3a
            refine (add_x HX.out ⟨3, (j : Int), (m : Int), sa⟩ 9 _ _ _ _ _ 0 HWa.out.1 HWa.out.2 ⟨by decide, by decide⟩ rfl HADa.out rfl).mono ?_
            rintro e wd ⟨F2, rfl, hx⟩
            have HX2 := Lib.hid hx
            clear hx
            go_wp2_with fail
            refine (add_x HX2.out ⟨3, 0, 1, ⟨#[120]⟩⟩ 9 _ _ _ _ _ 0 (by decide) wf_x ⟨by decide, by decide⟩ rfl step_x rfl).mono ?_
            rintro e we ⟨F3, rfl, hx⟩
            have HX3 := Lib.hid hx
            clear hx
            have hcb := fro_cell HX3.out.two (j := j) (by rw [parts_len]; exact HJb.out)
            rw [parts_getD _ _ _ _ _ HJb.out, HPb.out] at hcb
            obtain ⟨r0b, r1b, r2b, r3b⟩ := hcb
            go_wp2_with fail
            clear r0b r1b r2b r3b
            refine (add_x HX3.out ⟨4, (j : Int), (n : Int), sb⟩ 9 _ _ _ _ _ 0 HWb.out.1 HWb.out.2 ⟨by decide, by decide⟩ rfl HADb.out rfl).mono ?_
            rintro e wf ⟨F4, rfl, hx⟩
            have HX4 := Lib.hid hx
            clear hx
            go_wp2_with fail
            go_roundw
            case rel => exact ⟨j + 1, F4, HMX.out.1, by go_num, HX4⟩
            case measure => have := HMX.out.2; simp [intOf]; omega
        · have HJM := Lib.hid hj
          obtain ⟨sa, hsa⟩ : ∃ t, (partAt A 3 k m j).s = t := ⟨_, rfl⟩
          have hpa := part_is A 3 k m j hsa
          have hada := step_a HDA.out HDB.out HVA.out HVB.out (j := j) hja
          rw [hpa] at hada
          have HADa := Lib.hid ((told hada).2 (by omega))
          have hwa := right_wf (HDA.out.right (i := j) hja)
          have hza := (HDA.out.le (i := j) hja).1
          rw [hpa] at hwa hza
          have HWa : Hid (sa.size ≤ 1000000 ∧ (⟨3, (j : Int), (m : Int), sa⟩ : Fr).Wf) := Lib.hid ⟨by have := HDA.out.k2; simp only at hza; omega, hwa⟩
          have HPa := Lib.hid hpa
          have HJa := Lib.hid hja
          have qa : ((j : Int) == (m1 : Int)) = false := by simp; omega
          have da : (j == m1) = false := by simp; omega
          have ia : decide (j = m1) = false := by exact decide_eq_false (by omega)
          clear hsa hada hwa hza hpa
          have tA : (A.toList == A.toList) = true := by simp
          have tB : (B.toList == B.toList) = true := by simp
          have HMX : Hid (j + 1 ≤ max m n ∧ j < max m n) := Lib.hid (by omega)
          have HNB : Hid (n ≤ j) := Lib.hid (by omega)
          have b1 : ¬ (j : Int) < (n : Int) := by omega
          have kb : decide (j < n) = false := decide_eq_false (by omega)
          clear hj hmc hnc
          clear hja hla
          clear hjb
          have hca := fro_cell HX.out.one (j := j) (by rw [parts_len]; exact HJa.out)
          rw [parts_getD _ _ _ _ _ HJa.out, HPa.out] at hca
          obtain ⟨r0a, r1a, r2a, r3a⟩ := hca
          go_wp2_with fail
          clear r0a r1a r2a r3a
          refine (add_x HX.out ⟨3, (j : Int), (m : Int), sa⟩ 9 _ _ _ _ _ 0 HWa.out.1 HWa.out.2 ⟨by decide, by decide⟩ rfl HADa.out rfl).mono ?_
          rintro e wd ⟨F2, rfl, hx⟩
          have HX2 := Lib.hid hx
          clear hx
          go_wp2_with fail
          refine (add_x HX2.out ⟨3, 0, 1, ⟨#[120]⟩⟩ 9 _ _ _ _ _ 0 (by decide) wf_x ⟨by decide, by decide⟩ rfl step_x rfl).mono ?_
          rintro e we ⟨F3, rfl, hx⟩
          have HX3 := Lib.hid hx
          clear hx
          have HX4 : Hid (Px w F3 we p (apL A B k m n (j + 1) (j + 1)) (.slice (some ⟨ga, 0, none⟩) m ca) (.slice (some ⟨gb, 0, none⟩) n cb) (parts A 3 k m) (parts B 4 k n)) := Lib.hid (by rw [← no_b HNB.out]; exact HX3.out)
          go_wp2_with fail
          go_roundw
          case rel => exact ⟨j + 1, F3, HMX.out.1, by go_num, HX4⟩
          case measure => have := HMX.out.2; simp [intOf]; omega
    · by_cases hjb : j < n
      · have b1 : (j : Int) < (n : Int) := by omega
        have a1 : ¬ (j : Int) < (m : Int) := by omega
        by_cases hlb : j = n1
        · have HJM := Lib.hid hj
          obtain ⟨sb, hsb⟩ : ∃ t, (partAt B 4 k n j).s = t := ⟨_, rfl⟩
          have hpb := part_is B 4 k n j hsb
          have hadb := step_b HDA.out HDB.out HVA.out HVB.out (j := j) hjb
          rw [hpb] at hadb
          have HADb := Lib.hid ((told hadb).1 (by omega))
          have hwb := right_wf (HDB.out.right (i := j) hjb)
          have hzb := (HDB.out.le (i := j) hjb).1
          rw [hpb] at hwb hzb
          have HWb : Hid (sb.size ≤ 1000000 ∧ (⟨4, (j : Int), (n : Int), sb⟩ : Fr).Wf) := Lib.hid ⟨by have := HDB.out.k2; simp only at hzb; omega, hwb⟩
          have HPb := Lib.hid hpb
          have HJb := Lib.hid hjb
          have qb : ((j : Int) == (n1 : Int)) = true := by rw [beq_iff_eq]; omega
          have db : (j == n1) = true := by rw [beq_iff_eq]; omega
          have ib : decide (j = n1) = true := by exact decide_eq_true (by omega)
          clear hsb hadb hwb hzb hpb
          have tA : (A.toList == A.toList) = true := by simp
          have tB : (B.toList == B.toList) = true := by simp
          have HMX : Hid (j + 1 ≤ max m n ∧ j < max m n) := Lib.hid (by omega)
          have HNA : Hid (m ≤ j) := Lib.hid (by omega)
          have ka : decide (j < m) = false := decide_eq_false (by omega)
          clear hj hmc hnc
          clear hja
          clear hjb hlb
          have HX2 : Hid (Px w F wr p (apL A B k m n (j + 1) j) (.slice (some ⟨ga, 0, none⟩) m ca) (.slice (some ⟨gb, 0, none⟩) n cb) (parts A 3 k m) (parts B 4 k n)) := Lib.hid (by rw [← no_a HNA.out]; exact HX.out)
          go_wp2_with fail
          refine (add_x HX2.out ⟨3, 0, 1, ⟨#[120]⟩⟩ 9 _ _ _ _ _ 0 (by decide) wf_x ⟨by decide, by decide⟩ rfl step_x rfl).mono ?_
          rintro e we ⟨F3, rfl, hx⟩
          have HX3 := Lib.hid hx
          clear hx
          have hcb := fro_cell HX3.out.two (j := j) (by rw [parts_len]; exact HJb.out)
          rw [parts_getD _ _ _ _ _ HJb.out, HPb.out] at hcb
          obtain ⟨r0b, r1b, r2b, r3b⟩ := hcb
          go_wp2_with fail
          clear r0b r1b r2b r3b
          refine (add_x HX3.out ⟨4, (j : Int), (n : Int), sb⟩ 9 _ _ _ _ _ 0 HWb.out.1 HWb.out.2 ⟨by decide, by decide⟩ rfl HADb.out rfl).mono ?_
          rintro e wf ⟨F4, rfl, hx⟩
          have HX4 := Lib.hid hx
          clear hx
          go_wp2_with fail
          go_roundw
          case rel => exact ⟨j + 1, F4, HMX.out.1, by go_num, HX4⟩
          case measure => have := HMX.out.2; simp [intOf]; omega
        · have HJM := Lib.hid hj
          obtain ⟨sb, hsb⟩ : ∃ t, (partAt B 4 k n j).s = t := ⟨_, rfl⟩
          have hpb := part_is B 4 k n j hsb
          have hadb := step_b HDA.out HDB.out HVA.out HVB.out (j := j) hjb
          rw [hpb] at hadb
          have HADb := Lib.hid ((told hadb).2 (by omega))
          have hwb := right_wf (HDB.out.right (i := j) hjb)
          have hzb := (HDB.out.le (i := j) hjb).1
          rw [hpb] at hwb hzb
          have HWb : Hid (sb.size ≤ 1000000 ∧ (⟨4, (j : Int), (n : Int), sb⟩ : Fr).Wf) := Lib.hid ⟨by have := HDB.out.k2; simp only at hzb; omega, hwb⟩
          have HPb := Lib.hid hpb
          have HJb := Lib.hid hjb
          have qb : ((j : Int) == (n1 : Int)) = false := by simp; omega
          have db : (j == n1) = false := by simp; omega
          have ib : decide (j = n1) = false := by exact decide_eq_false (by omega)
          clear hsb hadb hwb hzb hpb
          have tA : (A.toList == A.toList) = true := by simp
          have tB : (B.toList == B.toList) = true := by simp
          have HMX : Hid (j + 1 ≤ max m n ∧ j < max m n) := Lib.hid (by omega)
          have HNA : Hid (m ≤ j) := Lib.hid (by omega)
          have ka : decide (j < m) = false := decide_eq_false (by omega)
          clear hj hmc hnc
          clear hja
          clear hjb hlb
          have HX2 : Hid (Px w F wr p (apL A B k m n (j + 1) j) (.slice (some ⟨ga, 0, none⟩) m ca) (.slice (some ⟨gb, 0, none⟩) n cb) (parts A 3 k m) (parts B 4 k n)) := Lib.hid (by rw [← no_a HNA.out]; exact HX.out)
          go_wp2_with fail
          refine (add_x HX2.out ⟨3, 0, 1, ⟨#[120]⟩⟩ 9 _ _ _ _ _ 0 (by decide) wf_x ⟨by decide, by decide⟩ rfl step_x rfl).mono ?_
          rintro e we ⟨F3, rfl, hx⟩
          have HX3 := Lib.hid hx
          clear hx
          have hcb := fro_cell HX3.out.two (j := j) (by rw [parts_len]; exact HJb.out)
          rw [parts_getD _ _ _ _ _ HJb.out, HPb.out] at hcb
          obtain ⟨r0b, r1b, r2b, r3b⟩ := hcb
          go_wp2_with fail
          clear r0b r1b r2b r3b
          refine (add_x HX3.out ⟨4, (j : Int), (n : Int), sb⟩ 9 _ _ _ _ _ 0 HWb.out.1 HWb.out.2 ⟨by decide, by decide⟩ rfl HADb.out rfl).mono ?_
          rintro e wf ⟨F4, rfl, hx⟩
          have HX4 := Lib.hid hx
          clear hx
          go_wp2_with fail
          go_roundw
          case rel => exact ⟨j + 1, F4, HMX.out.1, by go_num, HX4⟩
          case measure => have := HMX.out.2; simp [intOf]; omega
      · have a1 : ¬ (j : Int) < (m : Int) := by omega
        have b1 : ¬ (j : Int) < (n : Int) := by omega
        have hnil : (apL A B k m n j j) = ⟨[], 2, 400⟩ := by unfold apL; rw [half_end (by omega), half_end (by omega)]; rfl
        rw [hnil] at HX
        clear hnil hj hja hjb hmc hnc
        go_wp2_with fail
        refine (held_x HX.out 0 0 rfl rfl).mono ?_
        rintro e wd ⟨rfl, hx⟩
        have HX2 := Lib.hid hx
        clear hx
        go_wp2_with fail
        refine (fixed_any _).mono ?_
        rintro e wz ⟨rfl, hb⟩
        have HZ := Lib.hid (HX2.out.below hb)
        clear hb
        go_wp2_with fail
        go_ret
        exact ⟨rfl, HZ.out.al.low⟩
theorem walk (a0 b0 : ByteArray) (a2 : Int) (w : World) (w0 : a0.size ≤ maxLen) (w1 : b0.size ≤ maxLen) (h2 : (Lit.int .u8 a2).wf = true) :
    Calls Try.prog 8 #[.string a0, .string b0, .int .u8 a2] w fun e w' => e = .returned (.bool true) ∧ Below w.heap.size w w' := by
  obtain ⟨A, m2, uA, vA, yA⟩ := slice_facts a0 200
  obtain ⟨B, m3, uB, vB, yB⟩ := slice_facts b0 200
  obtain ⟨y20, y21⟩ := Go.bounds_u8 h2
  obtain ⟨k, hk⟩ : ∃ k : Nat, 13 + a2 = (k : Int) := ⟨(13 + a2).toNat, by omega⟩
  have hgA : Good A 3 k := ⟨by omega, by omega, by omega, by omega, by omega⟩
  have hgB : Good B 4 k := ⟨by omega, by omega, by omega, by omega, by omega⟩
  have mA : many A.size k ≤ 16 := many_16 (by omega) vA
  have mB : many B.size k ≤ 16 := many_16 (by omega) vB
  by_cases eA : A.size = 0
  · by_cases eB : B.size = 0
    · exact walkEE a0 A b0 B a2 k w y20 y21 m2 uA vA yA w0 m3 uB vB yB w1 hk 0 0 (Lib.hid eA) (Lib.hid eB)
    · exact walkEN a0 A b0 B a2 k w y20 y21 m2 uA vA yA w0 m3 uB vB yB w1 hk 0 _ (Lib.hid eA) (Lib.hid eB) (Lib.hid ⟨hgB, eB, rfl, mB⟩)
  · by_cases eB : B.size = 0
    · exact walkNE a0 A b0 B a2 k w y20 y21 m2 uA vA yA w0 m3 uB vB yB w1 hk _ 0 (Lib.hid eA) (Lib.hid eB) (Lib.hid ⟨hgA, eA, rfl, mA⟩)
    · exact walkNN a0 A b0 B a2 k w y20 y21 m2 uA vA yA w0 m3 uB vB yB w1 hk _ _ (Lib.hid ⟨hgA, eA, rfl, mA⟩) (Lib.hid ⟨hgB, eB, rfl, mB⟩)

set_option maxRecDepth 100000 in
theorem lifted (os : Os) (started : os.Started) (H : Type) (enc : TypeId × Value → H) :
    ReturnsInHanded {} Try.checked os 8 .any (Rows.poolApartSpec.pre6 enc Try.prog Try.f8 Rows.poolApartRow.domain false) (Rows.poolApartSpec.post enc Try.prog Try.f8 false true false false) := by
  refine returnsInHanded_of_change (C := Try.checked) own started (by kernel_rfl) Try.func8
    (ChangeSpec.witness6 (enc := enc) (C := Try.checked) false ⟨#[], #[.string ByteArray.empty, .string ByteArray.empty, .int .u8 0], []⟩ 8 (by kernel_rfl) (by kernel_rfl) (by kernel_rfl) (by kernel_rfl)) ?_
  intro W base args ds gs before hval0 hW hcnd _
  have hval : ∀ (j : Nat) t v, Try.f8.params[j]? = some t → args[j]? = some v → Value.okWide Try.prog W .any base t v := hval0
  have hW' := hW
  obtain ⟨p, q, hA0, hV, rfl, hfz, hnd⟩ := hW
  have hA : DataW.TrodAll enc Try.prog W 0 (fun _ => true) true Try.f8.params.toList args.toList ds p := hA0
  rw [Try.params8] at hA hval
  obtain ⟨v0, vs0, d0, ds0, p0, q0, hargs, rfl, rfl, h0, r0⟩ := trodAll_cons hA
  obtain ⟨v1, vs1, d1, ds1, p1, q1, rfl, rfl, rfl, h1, r1⟩ := trodAll_cons r0
  obtain ⟨v2, vs2, d2, ds2, p2, q2, rfl, rfl, rfl, h2, r2⟩ := trodAll_cons r1
  obtain ⟨rfl, rfl, rfl⟩ := trodAll_nil r2
  obtain rfl : args = #[v0, v1, v2] := by cases args; simp_all
  obtain ⟨rfl, rfl⟩ := trodVars_none hV
  obtain ⟨a0, rfl, rfl, rfl, w0⟩ := open_string Try.underlying9 (hval 0 9 v0 rfl rfl) h0
  obtain ⟨a1, rfl, rfl, rfl, w1⟩ := open_string Try.underlying9 (hval 1 9 v1 rfl rfl) h1
  obtain ⟨a2, rfl, rfl, rfl, w2⟩ := open_int Try.underlying5 (hval 2 5 v2 rfl rfl) h2
  clear hA0 hval0
  refine (walk a0 a1 a2 W w0 w1 w2).mono fun e W' ⟨he, bel⟩ => ?_
  subst he
  exact ⟨_, rfl, _, _, _, [], _, [], hW', trodAll_mk1 (shut_bool Try.underlying4 _), (trodAll_cons_mk (shut_string Try.underlying9 w0) (trodAll_cons_mk (shut_string Try.underlying9 w1) (trodAll_cons_mk (shut_int Try.underlying5 w2) trodAll_mk0))), rfl, bel.frame _, fun h => by cases h⟩

theorem over : Rows.poolApartRow.holds Try.pinned (OpenSpec.ofChange Rows.poolApartSpec) :=
  OpenClaim.holds_of_wide 8 Try.f8 rfl rfl rfl rfl rfl rfl rfl ⟨rfl, rfl, rfl, rfl, rfl⟩ rfl rfl rfl rfl rfl (by kernel_rfl) Try.func8 (by kernel_rfl)
    (of_decide_eq_true (by kernel_rfl)) (by unfold Func.isWrapper; first | (rw [if_pos (by decide +kernel)]; kernel_rfl) | (rw [if_neg (by decide +kernel)]; exact ⟨rfl, rfl⟩))
    (fun os started H enc _ => lifted os started H enc)

theorem proved : Rows.PoolApartSaid := over
#print axioms proved
end Go.Proofs.Ytjcgckhheegonaa.poolApart
