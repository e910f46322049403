/- The parts that fieldsIn hands out, one by one; what each tells of its place. -/
/- Fields: what each of them tells, called through what it is handed out as. -/
import Derived.Test.YtgeonppckeiceaaGreatDoorGq06
import Derived.Deep.RegionHeld3
namespace Go.Proofs.YtgeonppckeiceaaGreatDoor.Ms
open Go.RowKit
set_option linter.unusedVariables false
set_option linter.unusedSimpArgs false
set_option maxRecDepth 20000
theorem sessionIn_any (p : Addr) (w : World) :
  Calls Tryz.prog 152 #[.pointer (some p)] w fun e w' => e = .returned (.agg #[.pointer (some p), .int .u64 1, .int .u64 4294967296]) ∧ Below w.heap.size w w' := by
 go_enter Tryz.func152, Tryz.ntmps152
 go_wp2
 exact bodyPost_ret (v := .agg #[.pointer (some p), .int .u64 1, .int .u64 4294967296]) (by simp [results, Tryz.results152, go_sem]) rfl ⟨rfl, below_alloc _ _⟩
theorem nameIn_any (p : Addr) (w : World) :
  Calls Tryz.prog 153 #[.pointer (some p)] w fun e w' => e = .returned (.agg #[.pointer (some p), .int .u64 1, .int .u64 1048576]) ∧ Below w.heap.size w w' := by
 go_enter Tryz.func153, Tryz.ntmps153
 go_wp2
 exact bodyPost_ret (v := .agg #[.pointer (some p), .int .u64 1, .int .u64 1048576]) (by simp [results, Tryz.results153, go_sem]) rfl ⟨rfl, below_alloc _ _⟩
theorem cell_al {w : World} {p : Addr} {v : Value} (h : w.cell? p = some v) (o : Obj) : (w.alloc o).cell? p = some v := ((below_alloc w o).cell (block_lt_of_cell h)).trans h
theorem frz_al {w : World} {p : Addr} {b : Bool} (h : w.frozen? p = b) (hp : p.block < w.heap.size) (o : Obj) : (w.alloc o).frozen? p = b := ((below_alloc w o).frozen hp).trans h
theorem iv_yes {lo hi u : Int} (h : lo ≤ u) : inIv lo hi u = decide (u ≤ hi) := by simp [inIv, h]
theorem iv_no {lo hi u : Int} (h : ¬ lo ≤ u) : inIv lo hi u = false := by simp [inIv, h]
theorem rightI_any (p : Addr) (lo hi x : Int) (w : World) (hc : w.cell? p = some (.int .i64 x)) (u : Int) (hu : IntKind.u64.wrap x = u) (b : Bool) (hb : Hid (inIv lo hi u = b)) :
  Calls Tryz.prog 263 #[.agg #[.pointer (some p), .int .u64 lo, .int .u64 hi]] w fun e w' => e = .returned (.bool b) ∧ Below w.heap.size w w' := by
 have hc1 := cell_al hc (.cells #[.pointer (some p), .int .u64 lo, .int .u64 hi] 173)
 clear hc
 by_cases hlo : lo ≤ u
 ·have hd : decide (lo ≤ u) = true := by simpa using hlo
  have HE : Hid (decide (u ≤ hi) = b) := Lib.hid (by rw [← hb.out, iv_yes hlo])
  go_enter Tryz.func263, Tryz.ntmps263
  go_wp2
  go_ret
  exact ⟨retB HE.out, below_alloc _ _⟩
 ·have hd : decide (lo ≤ u) = false := by simpa using hlo
  have hd2 : u < lo := by omega
  have HE : Hid (false = b) := Lib.hid (by rw [← hb.out, iv_no hlo])
  go_enter Tryz.func263, Tryz.ntmps263
  go_wp2
  go_ret
  exact ⟨retB HE.out, below_alloc _ _⟩
theorem emptyI_any (p : Addr) (lo hi x : Int) (w : World) (hc : w.cell? p = some (.int .i64 x)) (hf : w.frozen? p = false) :
  Calls Tryz.prog 261 #[.agg #[.pointer (some p), .int .u64 lo, .int .u64 hi]] w fun e w' => e = .returned (.tuple #[]) ∧ ∃ w1, Below w.heap.size w w1 ∧ w' = w1.setCell p (.int .i64 0) := by
 have hc1 := cell_al hc (.cells #[.pointer (some p), .int .u64 lo, .int .u64 hi] 173)
 have hf1 := frz_al hf (block_lt_of_cell hc) (.cells #[.pointer (some p), .int .u64 lo, .int .u64 hi] 173)
 clear hc hf
 go_enter Tryz.func261, Tryz.ntmps261
 go_wp2
 go_end0
 exact ⟨rfl, _, below_alloc _ _, rfl⟩
theorem rightU_any (p : Addr) (lo hi x : Int) (w : World) (hc : w.cell? p = some (.int .u64 x)) (b : Bool) (hb : Hid (inIv lo hi x = b)) :
  Calls Tryz.prog 267 #[.agg #[.pointer (some p), .int .u64 lo, .int .u64 hi]] w fun e w' => e = .returned (.bool b) ∧ Below w.heap.size w w' := by
 have hc1 := cell_al hc (.cells #[.pointer (some p), .int .u64 lo, .int .u64 hi] 229)
 clear hc
 by_cases hlo : lo ≤ x
 ·have hd : decide (lo ≤ x) = true := by simpa using hlo
  have HE : Hid (decide (x ≤ hi) = b) := Lib.hid (by rw [← hb.out, iv_yes hlo])
  go_enter Tryz.func267, Tryz.ntmps267
  go_wp2
  go_ret
  exact ⟨retB HE.out, below_alloc _ _⟩
 ·have hd : decide (lo ≤ x) = false := by simpa using hlo
  have hd2 : x < lo := by omega
  have HE : Hid (false = b) := Lib.hid (by rw [← hb.out, iv_no hlo])
  go_enter Tryz.func267, Tryz.ntmps267
  go_wp2
  go_ret
  exact ⟨retB HE.out, below_alloc _ _⟩
theorem emptyU_any (p : Addr) (lo hi x : Int) (w : World) (hc : w.cell? p = some (.int .u64 x)) (hf : w.frozen? p = false) :
  Calls Tryz.prog 265 #[.agg #[.pointer (some p), .int .u64 lo, .int .u64 hi]] w fun e w' => e = .returned (.tuple #[]) ∧ ∃ w1, Below w.heap.size w w1 ∧ w' = w1.setCell p (.int .u64 0) := by
 have hc1 := cell_al hc (.cells #[.pointer (some p), .int .u64 lo, .int .u64 hi] 229)
 have hf1 := frz_al hf (block_lt_of_cell hc) (.cells #[.pointer (some p), .int .u64 lo, .int .u64 hi] 229)
 clear hc hf
 go_enter Tryz.func265, Tryz.ntmps265
 go_wp2
 go_end0
 exact ⟨rfl, _, below_alloc _ _, rfl⟩
theorem rightV_any (p : Addr) (x : ByteArray) (w : World) (hx : x.size ≤ maxLen) (hc : w.cell? p = some (.string x)) (b : Bool) (hb : Hid (rightB x.data.toList = b)) :
  Calls Tryz.prog 271 #[.agg #[.pointer (some p)]] w fun e w' => e = .returned (.bool b) ∧ Below w.heap.size w w' := by
 have hc1 := cell_al hc (.cells #[.pointer (some p)] 234)
 have HX := Lib.hid hx
 clear hc hx
 go_enter Tryz.func271, Tryz.ntmps271
 go_wp2_with fail
 refine (right_any x _ HX.out b hb).mono ?_
 rintro e w1 ⟨rfl, hb1⟩
 go_wp2_with fail
 go_ret
 exact ⟨rfl, (below_alloc _ _).trans (hb1.mono (below_alloc _ _).size)⟩
theorem emptyV_any (p : Addr) (x : ByteArray) (w : World) (hc : w.cell? p = some (.string x)) (hf : w.frozen? p = false) :
  Calls Tryz.prog 269 #[.agg #[.pointer (some p)]] w fun e w' => e = .returned (.tuple #[]) ∧ ∃ w1, Below w.heap.size w w1 ∧ w' = w1.setCell p (.string ByteArray.empty) := by
 have hc1 := cell_al hc (.cells #[.pointer (some p)] 234)
 have hf1 := frz_al hf (block_lt_of_cell hc) (.cells #[.pointer (some p)] 234)
 clear hc hf
 go_enter Tryz.func269, Tryz.ntmps269
 go_wp2
 go_end0
 exact ⟨rfl, _, below_alloc _ _, rfl⟩
def Fd.fRight : Fd → FuncId
 | .int .. => 263
 | .ses .. => 267
 | .nam _ => 263
 | .ver => 271
def Fd.fEmpty : Fd → FuncId
 | .int .. => 261
 | .ses .. => 265
 | .nam _ => 261
 | .ver => 269
theorem meth_right (f : Fd) (q : Nat) (w : World) : (method 416 f.ty (f.rcv q) "sough/msg.right").run Tryz.prog w = .ok (f.fRight, f.rcv q) w := by cases f <;> kernel_rfl
theorem call_right (f : Fd) (q : Nat) (w : World) : (callFunc f.fRight #[f.rcv q]).run Tryz.prog w = .ok (.enter f.fRight #[f.rcv q]) w := by cases f <;> kernel_rfl
theorem meth_empty (f : Fd) (q : Nat) (w : World) : (method 416 f.ty (f.rcv q) "sough/msg.empty").run Tryz.prog w = .ok (f.fEmpty, f.rcv q) w := by cases f <;> kernel_rfl
theorem call_empty (f : Fd) (q : Nat) (w : World) : (callFunc f.fEmpty #[f.rcv q]).run Tryz.prog w = .ok (.enter f.fEmpty #[f.rcv q]) w := by cases f <;> kernel_rfl
theorem wf_i64 {x : Int} : (Lit.int .i64 x).wf = true ↔ -9223372036854775808 ≤ x ∧ x ≤ 9223372036854775807 := by
 simp [Lit.wf, IntKind.bits, IntKind.signed, IntKind.min, IntKind.max]
theorem wrap_def (x : Int) : IntKind.u64.wrap x = x % 18446744073709551616 := by
 simp [IntKind.wrap, IntKind.bits, IntKind.signed]
theorem inIv_wrap {lo hi x : Int} (h : (Lit.int .i64 x).wf = true) (h0 : 0 ≤ lo) (h1 : hi ≤ 9223372036854775807) : inIv lo hi (IntKind.u64.wrap x) = inIv lo hi x := by
 rw [wf_i64] at h
 rw [wrap_def]
 by_cases hx : 0 ≤ x
 ·rw [show x % 18446744073709551616 = x by omega]
 ·have e1 : inIv lo hi x = false := by simp [inIv]; omega
  have e2 : inIv lo hi (x % 18446744073709551616) = false := by simp [inIv]; omega
  rw [e1, e2]
theorem nCell_i {j : Nat} (h : j = 4 ∨ j = 5) : nCell j = true ∧ kCell j = .i64 := by rcases h with rfl | rfl <;> decide
theorem nCell_u {j : Nat} (h : j = 1 ∨ j = 2 ∨ j = 11 ∨ j = 12) : nCell j = true ∧ kCell j = .u64 := by rcases h with rfl | rfl | rfl | rfl <;> decide
theorem nCell_n {j : Nat} (h : 6 ≤ j ∧ j ≤ 10) : nCell j = true ∧ kCell j = .i64 := by
 obtain rfl | rfl | rfl | rfl | rfl : j = 6 ∨ j = 7 ∨ j = 8 ∨ j = 9 ∨ j = 10 := by omega
 all_goals decide
section
variable {w : World} {q : Nat} {M : Ms}
theorem MsgAt.of (h : MsgAt w q M) {j : Nat} {k : IntKind} (hj : nCell j = true ∧ kCell j = k) : w.cell? ⟨q, j, none⟩ = some (.int k (M.i j)) := by
 rw [← hj.2]; exact h.cell hj.1
theorem Ms.Wf.at (h : M.Wf) {j : Nat} {k : IntKind} (hj : nCell j = true ∧ kCell j = k) : (Lit.int k (M.i j)).wf = true := by
 rw [← hj.2]; exact h.n j hj.1
theorem Ms.Wf.set (h : M.Wf) {j : Nat} {x : Int} (hx : (Lit.int (kCell j) x).wf = true) : (M.set j x).Wf :=
 ⟨fun i hi => by
  by_cases e : i = j
  ·subst e; simp only [Ms.set, if_true]; exact hx
  ·simp only [Ms.set, if_neg e]; exact h.n i hi, h.s⟩
theorem Ms.Wf.setS (h : M.Wf) {t : ByteArray} (ht : t.size ≤ maxLen) : (M.setS t).Wf := ⟨h.n, ht⟩
theorem wf_zero (k : IntKind) : (Lit.int k 0).wf = true := by cases k <;> decide
theorem Fd.emp_wf (f : Fd) (h : M.Wf) : (f.emp M).Wf := by
 cases f with
 | int j lo hi => exact h.set (wf_zero _)
 | ses j lo hi => exact h.set (wf_zero _)
 | nam j => exact h.set (wf_zero _)
 | ver => exact h.setS (Nat.zero_le _)
theorem Fd.right_c (f : Fd) (hf : f.Fit) (h : MsgAt w q M) (hM : M.Wf) (b : Bool) (hb : Hid (f.ok M = b)) :
  Calls Tryz.prog f.fRight #[f.rcv q] w fun e w' => e = .returned (.bool b) ∧ Below w.heap.size w w' := by
 cases f with
 | int j lo hi =>
  obtain ⟨hj, h0, h1, h2, h3⟩ := hf
  exact rightI_any _ lo hi _ w (h.of (nCell_i hj)) _ rfl b (Lib.hid (by rw [inIv_wrap (hM.at (nCell_i hj)) h0 (by omega)]; exact hb.out))
 | ses j lo hi => exact rightU_any _ lo hi _ w (h.of (nCell_u hf.1)) b hb
 | nam j => exact rightI_any _ 1 1048576 _ w (h.of (nCell_n hf)) _ rfl b (Lib.hid (by rw [inIv_wrap (hM.at (nCell_n hf)) (by omega) (by omega)]; exact hb.out))
 | ver => exact rightV_any _ M.s w hM.s h.cellS b hb
theorem MsgAt.turn {w w1 : World} {q j : Nat} {M : Ms} {k : IntKind} (h : MsgAt w q M) (hb : Below w.heap.size w w1) (hj : nCell j = true ∧ kCell j = k) (x : Int) :
  Chg (fun k => k = q) w (w1.setCell ⟨q, j, none⟩ (.int k x)) ∧ MsgAt (w1.setCell ⟨q, j, none⟩ (.int k x)) q (M.set j x) :=
 ⟨(Chg.of_below hb).trans (Chg.setCell _ _ _ _), (h.below hb).set hj.1 hj.2.symm x⟩
theorem MsgAt.turnS {w w1 : World} {q : Nat} {M : Ms} (h : MsgAt w q M) (hb : Below w.heap.size w w1) (t : ByteArray) :
  Chg (fun k => k = q) w (w1.setCell ⟨q, 3, none⟩ (.string t)) ∧ MsgAt (w1.setCell ⟨q, 3, none⟩ (.string t)) q (M.setS t) :=
 ⟨(Chg.of_below hb).trans (Chg.setCell _ _ _ _), (h.below hb).setS t⟩
theorem Fd.empty_c (f : Fd) (hf : f.Fit) (h : MsgAt w q M) :
  Calls Tryz.prog f.fEmpty #[f.rcv q] w fun e w' => e = .returned (.tuple #[]) ∧ Chg (fun k => k = q) w w' ∧ MsgAt w' q (f.emp M) := by
 cases f with
 | int j lo hi => exact (emptyI_any _ lo hi _ w (h.of (nCell_i hf.1)) (frz_of_row j h)).mono fun e w' ⟨he, w1, hb, hw⟩ => ⟨he, by subst hw; exact h.turn hb (nCell_i hf.1) 0⟩
 | ses j lo hi => exact (emptyU_any _ lo hi _ w (h.of (nCell_u hf.1)) (frz_of_row j h)).mono fun e w' ⟨he, w1, hb, hw⟩ => ⟨he, by subst hw; exact h.turn hb (nCell_u hf.1) 0⟩
 | nam j => exact (emptyI_any _ 1 1048576 _ w (h.of (nCell_n hf)) (frz_of_row j h)).mono fun e w' ⟨he, w1, hb, hw⟩ => ⟨he, by subst hw; exact h.turn hb (nCell_n hf) 0⟩
 | ver => exact (emptyV_any _ M.s w h.cellS (frz_of_row 3 h)).mono fun e w' ⟨he, w1, hb, hw⟩ => ⟨he, by subst hw; exact h.turnS hb _⟩
end
theorem fds_fit {k : Int} {f : Fd} (h : f ∈ fds k) : f.Fit := by
 unfold fds at h
 split at h <;> simp only [List.mem_cons, List.not_mem_nil, or_false, false_or] at h
 ·rcases h with rfl | rfl | rfl | rfl | rfl | rfl | rfl | rfl <;> simp [Fd.Fit]
 ·rcases h with rfl | rfl | rfl | rfl | rfl <;> simp [Fd.Fit]
 ·rcases h with rfl | rfl <;> simp [Fd.Fit]
 ·rcases h with rfl | rfl | rfl | rfl <;> simp [Fd.Fit]
end Go.Proofs.YtgeonppckeiceaaGreatDoor.Ms
