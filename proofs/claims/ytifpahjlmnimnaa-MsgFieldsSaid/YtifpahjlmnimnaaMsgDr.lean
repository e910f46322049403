/- The document's Right. -/
import Derived.Test.YtifpahjlmnimnaaMsgR
namespace Go.Proofs.Ytifpahjlmnimnaa
open Go.RowKit
set_option linter.unusedVariables false
set_option linter.unusedSimpArgs false
set_option maxRecDepth 20000

/-- A message of the document at a block. -/
def RAt (w : World) (q : Nat) (M : Ms) : Prop := w.heap[q]? = some (.cells M.cl 29 (0, 0))
theorem RAt.lt {w : World} {q : Nat} {M : Ms} (h : RAt w q M) : q < w.heap.size := blk_lt h
theorem RAt.below {w w' : World} {q : Nat} {M : Ms} (h : RAt w q M) (hb : Below w.heap.size w w') : RAt w' q M := (hb.block q h.lt).trans h
theorem RAt.cells {w : World} {q : Nat} {M : Ms} (h : RAt w q M) : w.cell? ⟨q, 0, none⟩ = some (.int .i64 (M.i 0)) ∧ w.cell? ⟨q, 1, none⟩ = some (.int .u64 (M.i 1)) ∧ w.cell? ⟨q, 2, none⟩ = some (.int .u64 (M.i 2)) ∧ w.cell? ⟨q, 3, none⟩ = some (.string M.s) ∧ w.cell? ⟨q, 4, none⟩ = some (.int .i64 (M.i 4)) ∧ w.cell? ⟨q, 5, none⟩ = some (.int .i64 (M.i 5)) ∧ w.cell? ⟨q, 6, none⟩ = some (.int .i64 (M.i 6)) ∧ w.cell? ⟨q, 7, none⟩ = some (.int .i64 (M.i 7)) ∧ w.cell? ⟨q, 8, none⟩ = some (.int .i64 (M.i 8)) ∧ w.cell? ⟨q, 9, none⟩ = some (.int .i64 (M.i 9)) ∧ w.cell? ⟨q, 10, none⟩ = some (.int .i64 (M.i 10)) ∧ w.cell? ⟨q, 11, none⟩ = some (.int .u64 (M.i 11)) ∧ w.cell? ⟨q, 12, none⟩ = some (.int .u64 (M.i 12)) :=
  ⟨cell_at 0 h, cell_at 1 h, cell_at 2 h, cell_at 3 h, cell_at 4 h, cell_at 5 h, cell_at 6 h, cell_at 7 h, cell_at 8 h, cell_at 9 h, cell_at 10 h, cell_at 11 h, cell_at 12 h⟩
theorem rnumber_k (x : Int) (w : World) (b : Bool) (hb : Hid (inIv 1 4294967296 x = b)) :
    Calls Try.prog 26 #[.int .u64 x] w fun e w' => e = .returned (.bool b) ∧ w' = w := by
  by_cases hlo : 1 ≤ x
  · have hd : decide (1 ≤ x) = true := by simpa using hlo
    have HE : Hid (decide (x ≤ 4294967296) = b) := Lib.hid (by rw [← hb.out, iv_yes hlo])
    go_enter Try.func26, Try.ntmps26
    go_wp2
    go_ret
    exact ⟨retB HE.out, rfl⟩
  · have hd : decide (1 ≤ x) = false := by simpa using hlo
    have hd2 : x < 1 := by omega
    have HE : Hid (false = b) := Lib.hid (by rw [← hb.out, iv_no hlo])
    go_enter Try.func26, Try.ntmps26
    go_wp2
    go_ret
    exact ⟨retB HE.out, rfl⟩
theorem rname_k (x : Int) (w : World) (b : Bool) (hb : Hid (inIv 1 1048576 x = b)) :
    Calls Try.prog 28 #[.int .i64 x] w fun e w' => e = .returned (.bool b) ∧ w' = w := by
  by_cases hlo : 1 ≤ x
  · have hd : decide (1 ≤ x) = true := by simpa using hlo
    have HE : Hid (decide (x ≤ 1048576) = b) := Lib.hid (by rw [← hb.out, iv_yes hlo])
    go_enter Try.func28, Try.ntmps28
    go_wp2
    go_ret
    exact ⟨retB HE.out, rfl⟩
  · have hd : decide (1 ≤ x) = false := by simpa using hlo
    have hd2 : x < 1 := by omega
    have HE : Hid (false = b) := Lib.hid (by rw [← hb.out, iv_no hlo])
    go_enter Try.func28, Try.ntmps28
    go_wp2
    go_ret
    exact ⟨retB HE.out, rfl⟩

theorem ivt {lo hi x : Int} (h1 : lo ≤ x) (h2 : x ≤ hi) : inIv lo hi x = true := by simp [inIv, h1, h2]
theorem ivl {lo hi x : Int} (h : inIv lo hi x = true) : lo ≤ x := by simp [inIv] at h; exact h.1
theorem ivr {lo hi x : Int} (h : inIv lo hi x = true) : x ≤ hi := by simp [inIv] at h; exact h.2
theorem u_pos {M : Ms} (h : M.Wf) (j : Nat) (hj : (nCell j && uCell j) = true) : 0 ≤ M.i j := by
  rw [Bool.and_eq_true] at hj
  have := h.n j hj.1
  unfold kCell at this
  rw [if_pos hj.2, wf_u64] at this
  exact this.1
set_option maxHeartbeats 2000000 in
set_option maxRecDepth 100000 in
theorem rright_lo (M : Ms) (w : World) (h : M.i 0 < 1) (b : Bool) (hb : Hid (rightM M = b)) :
    Calls Try.prog 13 #[M.v] w fun e w' => e = .returned (.bool b) ∧ Below w.heap.size w w' := by
  have HE : Hid (false = b) := Lib.hid (by rw [← hb.out]; exact (right_nofds (fds_none (by omega) (by omega) (by omega) (by omega))).symm)
  obtain ⟨wa, hwa⟩ : ∃ wa, wa = w.alloc (.cells M.cl 29) := ⟨_, rfl⟩
  have HM0 : Hid (RAt wa w.heap.size M) := Lib.hid (by rw [hwa]; exact heap_alloc_new w _)
  have HBA : Hid (Below w.heap.size w wa) := Lib.hid (by rw [hwa]; exact below_alloc _ _)
  have d1 : decide (M.i 0 < 1) = true := by simpa using h
  unfold Ms.v
  unfold Ms.cl at hwa ⊢
  go_enter Try.func13, Try.ntmps13
  obtain ⟨k0, k1, k2, k3, k4, k5, k6, k7, k8, k9, k10, k11, k12⟩ := HM0.out.cells
  rw [hwa] at k0 k1 k2 k3 k4 k5 k6 k7 k8 k9 k10 k11 k12
  go_wp2_with fail
  rw [← hwa]
  go_ret
  exact ⟨retB HE.out, HBA.out⟩
set_option maxHeartbeats 2000000 in
set_option maxRecDepth 100000 in
theorem rright_hi (M : Ms) (w : World) (h : 4 < M.i 0) (b : Bool) (hb : Hid (rightM M = b)) :
    Calls Try.prog 13 #[M.v] w fun e w' => e = .returned (.bool b) ∧ Below w.heap.size w w' := by
  have HE : Hid (false = b) := Lib.hid (by rw [← hb.out]; exact (right_nofds (fds_none (by omega) (by omega) (by omega) (by omega))).symm)
  obtain ⟨wa, hwa⟩ : ∃ wa, wa = w.alloc (.cells M.cl 29) := ⟨_, rfl⟩
  have HM0 : Hid (RAt wa w.heap.size M) := Lib.hid (by rw [hwa]; exact heap_alloc_new w _)
  have HBA : Hid (Below w.heap.size w wa) := Lib.hid (by rw [hwa]; exact below_alloc _ _)
  have d1 : decide (M.i 0 < 1) = false := by simp; omega
  have d2 : decide (4 < M.i 0) = true := by simpa using h
  unfold Ms.v
  unfold Ms.cl at hwa ⊢
  go_enter Try.func13, Try.ntmps13
  obtain ⟨k0, k1, k2, k3, k4, k5, k6, k7, k8, k9, k10, k11, k12⟩ := HM0.out.cells
  rw [hwa] at k0 k1 k2 k3 k4 k5 k6 k7 k8 k9 k10 k11 k12
  go_wp2_with fail
  rw [← hwa]
  go_ret
  exact ⟨retB HE.out, HBA.out⟩
theorem keep3_cells {w : World} {q : Nat} {M : Ms} (h : RAt w q (keep3 M)) : w.cell? ⟨q, 0, none⟩ = some (.int .i64 3) ∧ w.cell? ⟨q, 1, none⟩ = some (.int .u64 0) ∧ w.cell? ⟨q, 2, none⟩ = some (.int .u64 (M.i 2)) ∧ w.cell? ⟨q, 3, none⟩ = some (.string ⟨#[]⟩) ∧ w.cell? ⟨q, 4, none⟩ = some (.int .i64 0) ∧ w.cell? ⟨q, 5, none⟩ = some (.int .i64 (M.i 5)) ∧ w.cell? ⟨q, 6, none⟩ = some (.int .i64 0) ∧ w.cell? ⟨q, 7, none⟩ = some (.int .i64 0) ∧ w.cell? ⟨q, 8, none⟩ = some (.int .i64 0) ∧ w.cell? ⟨q, 9, none⟩ = some (.int .i64 0) ∧ w.cell? ⟨q, 10, none⟩ = some (.int .i64 0) ∧ w.cell? ⟨q, 11, none⟩ = some (.int .u64 0) ∧ w.cell? ⟨q, 12, none⟩ = some (.int .u64 0) :=
  ⟨cell_at 0 h, cell_at 1 h, cell_at 2 h, cell_at 3 h, cell_at 4 h, cell_at 5 h, cell_at 6 h, cell_at 7 h, cell_at 8 h, cell_at 9 h, cell_at 10 h, cell_at 11 h, cell_at 12 h⟩
theorem eql_keep3 (M : Ms) (b : Bool) (hk : M.i 0 = 3) (hb : Hid (eqM M (keep3 M) = b)) : ∀ w, (binOp .eql 29 (.agg #[.int .i64 3, .int .u64 (M.i 1), .int .u64 (M.i 2), .string M.s, .int .i64 (M.i 4), .int .i64 (M.i 5), .int .i64 (M.i 6), .int .i64 (M.i 7), .int .i64 (M.i 8), .int .i64 (M.i 9), .int .i64 (M.i 10), .int .u64 (M.i 11), .int .u64 (M.i 12)]) (.agg #[.int .i64 3, .int .u64 0, .int .u64 (M.i 2), .string ⟨#[]⟩, .int .i64 0, .int .i64 (M.i 5), .int .i64 0, .int .i64 0, .int .i64 0, .int .i64 0, .int .i64 0, .int .u64 0, .int .u64 0])).run Try.prog w = .ok (.bool b) w := fun w => by
  have h := eqlR M (keep3 M) w
  rw [hb.out] at h
  unfold Ms.v at h
  unfold Ms.cl at h
  rw [hk] at h
  exact h
set_option maxHeartbeats 8000000 in
set_option maxRecDepth 100000 in
theorem rright_3 (M : Ms) (w : World) (hM : M.Wf) (hk : Hid (M.i 0 = 3)) (b : Bool) (hb : Hid (rightM M = b)) :
    Calls Try.prog 13 #[M.v] w fun e w' => e = .returned (.bool b) ∧ Below w.heap.size w w' := by
  have HB := hb
  clear hb
  have HW := Lib.hid hM
  have HS := Lib.hid hM.s
  clear hM
  obtain ⟨q, hq⟩ : ∃ q, q = w.heap.size := ⟨_, rfl⟩
  obtain ⟨wa, hwa⟩ : ∃ wa, wa = w.alloc (.cells M.cl 29) := ⟨_, rfl⟩
  have HM0 : Hid (RAt wa q M) := Lib.hid (by rw [hwa, hq]; exact heap_alloc_new w _)
  have HBA : Hid (Below w.heap.size w wa) := Lib.hid (by rw [hwa]; exact below_alloc _ _)
  have hwa0 := hwa
  have hq0 := hq
  unfold Ms.v
  unfold Ms.cl at hwa ⊢
  rw [hk.out] at hwa ⊢
  replace hwa0 := Lib.hid hwa0
  replace hq0 := Lib.hid hq0
  go_enter Try.func13, Try.ntmps13
  obtain ⟨k0, k1, k2, k3, k4, k5, k6, k7, k8, k9, k10, k11, k12⟩ := HM0.out.cells
  rw [hk.out] at k0
  have l0 := fun o => cell_al k0 o
  have l1 := fun o => cell_al k1 o
  have l2 := fun o => cell_al k2 o
  have l3 := fun o => cell_al k3 o
  have l4 := fun o => cell_al k4 o
  have l5 := fun o => cell_al k5 o
  have l6 := fun o => cell_al k6 o
  have l7 := fun o => cell_al k7 o
  have l8 := fun o => cell_al k8 o
  have l9 := fun o => cell_al k9 o
  have l10 := fun o => cell_al k10 o
  have l11 := fun o => cell_al k11 o
  have l12 := fun o => cell_al k12 o
  rw [hq] at k0 k1 k2 k3 k4 k5 k6 k7 k8 k9 k10 k11 k12 l0 l1 l2 l3 l4 l5 l6 l7 l8 l9 l10 l11 l12
  rw [hwa] at k0 k1 k2 k3 k4 k5 k6 k7 k8 k9 k10 k11 k12 l0 l1 l2 l3 l4 l5 l6 l7 l8 l9 l10 l11 l12
  go_wp2_with fail
  rw [← hwa, ← hq]
  clear k0 k1 k2 k3 k4 k5 k6 k7 k8 k9 k10 k11 k12 l0 l1 l2 l3 l4 l5 l6 l7 l8 l9 l10 l11 l12 hwa hq
  have hk0 : wa.heap.size = q + 1 := by rw [hwa0.out, size_alloc, hq0.out]
  obtain ⟨wb, hwb⟩ : ∃ wb, wb = wa.alloc (.cells (keep3 M).cl 29) := ⟨_, rfl⟩
  have HO : Hid (RAt wb (q + 1) (keep3 M)) := Lib.hid (by rw [hwb, ← hk0]; exact heap_alloc_new wa _)
  have HM : Hid (RAt wb q M) := Lib.hid (by rw [hwb]; exact HM0.out.below (below_alloc _ _))
  have HBB : Hid (Below w.heap.size w wb) := Lib.hid (by rw [hwb]; exact HBA.out.trans ((below_alloc _ _).mono HBA.out.size))
  replace hwb : wb = wa.alloc (.cells #[.int .i64 3, .int .u64 0, .int .u64 (M.i 2), .string ⟨#[]⟩, .int .i64 0, .int .i64 (M.i 5), .int .i64 0, .int .i64 0, .int .i64 0, .int .i64 0, .int .i64 0, .int .u64 0, .int .u64 0] 29) := hwb
  rw [← hwb]
  clear hwb hk0 hwa0 hq0 HM0 HBA
  generalize q + 1 = ob at HO ⊢
  obtain ⟨k0, k1, k2, k3, k4, k5, k6, k7, k8, k9, k10, k11, k12⟩ := HM.out.cells
  rw [hk.out] at k0
  go_wp2_with fail
  cases h0 : inIv 1 4294967296 (M.i 2) with
  | false =>
    refine (rnumber_k (M.i 2) _ false (Lib.hid h0)).mono ?_
    rintro e w0 ⟨rfl, rfl⟩
    have HE : Hid (false = b) := Lib.hid (rno HB.out (fun e => by
      have hh := (right3_iff M hk.out).1 e
      have hv := hh.1
      rw [h0] at hv; cases hv
    ))
    go_wp2
    go_ret
    exact ⟨retB HE.out, HBB.out⟩
  | true =>
    refine (rnumber_k (M.i 2) _ true (Lib.hid h0)).mono ?_
    rintro e w0 ⟨rfl, rfl⟩
    have H0 := Lib.hid h0
    clear h0
    by_cases h1 : (1 : Int) ≤ M.i 5
    · have d1 : decide ((1 : Int) ≤ M.i 5) = true := by simpa using h1
      have H1 := Lib.hid h1
      clear h1
      by_cases h2 : M.i 5 ≤ 15
      · have d2 : decide (M.i 5 ≤ 15) = true := by simpa using h2
        have H2 := Lib.hid h2
        clear h2
        have HE : Hid (eqM M (keep3 M) = b) := Lib.hid (by rw [right3_eq M hk.out H0.out (ivt H1.out H2.out)]; exact HB.out)
        have hE := eql_keep3 M b hk.out HE
        have hgd := guardR
        obtain ⟨k0, k1, k2, k3, k4, k5, k6, k7, k8, k9, k10, k11, k12⟩ := HM.out.cells
        obtain ⟨o0, o1, o2, o3, o4, o5, o6, o7, o8, o9, o10, o11, o12⟩ := keep3_cells HO.out
        rw [hk.out] at k0
        go_wp2
        go_ret
        exact ⟨rfl, HBB.out⟩
      · have d2 : decide (M.i 5 ≤ 15) = false := by simpa using h2
        have N2 := Lib.hid h2
        clear h2
        have HE : Hid (false = b) := Lib.hid (rno HB.out (fun e => by
          have hh := (right3_iff M hk.out).1 e
          have hv := hh.2.1
          exact N2.out (ivr hv)
        ))
        go_wp2
        go_ret
        exact ⟨retB HE.out, HBB.out⟩
    · have d1 : decide ((1 : Int) ≤ M.i 5) = false := by simpa using h1
      have N1 := Lib.hid h1
      clear h1
      have HE : Hid (false = b) := Lib.hid (rno HB.out (fun e => by
        have hh := (right3_iff M hk.out).1 e
        have hv := hh.2.1
        exact N1.out (ivl hv)
      ))
      go_wp2
      go_ret
      exact ⟨retB HE.out, HBB.out⟩
end Go.Proofs.Ytifpahjlmnimnaa
