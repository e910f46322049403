/- The document's Right, of kind 2. -/
import Derived.Test.YtifpahjlmnimnaaMsgDr
namespace Go.Proofs.Ytifpahjlmnimnaa
open Go.RowKit
set_option linter.unusedVariables false
set_option linter.unusedSimpArgs false
set_option maxRecDepth 20000

theorem keep2_cells {w : World} {q : Nat} {M : Ms} (h : RAt w q (keep2 M)) : w.cell? ⟨q, 0, none⟩ = some (.int .i64 2) ∧ w.cell? ⟨q, 1, none⟩ = some (.int .u64 (M.i 1)) ∧ w.cell? ⟨q, 2, none⟩ = some (.int .u64 (M.i 2)) ∧ w.cell? ⟨q, 3, none⟩ = some (.string ⟨#[]⟩) ∧ w.cell? ⟨q, 4, none⟩ = some (.int .i64 0) ∧ w.cell? ⟨q, 5, none⟩ = some (.int .i64 0) ∧ w.cell? ⟨q, 6, none⟩ = some (.int .i64 (M.i 6)) ∧ w.cell? ⟨q, 7, none⟩ = some (.int .i64 0) ∧ w.cell? ⟨q, 8, none⟩ = some (.int .i64 (M.i 8)) ∧ w.cell? ⟨q, 9, none⟩ = some (.int .i64 (M.i 9)) ∧ w.cell? ⟨q, 10, none⟩ = some (.int .i64 0) ∧ w.cell? ⟨q, 11, none⟩ = some (.int .u64 0) ∧ w.cell? ⟨q, 12, none⟩ = some (.int .u64 0) :=
  ⟨cell_at 0 h, cell_at 1 h, cell_at 2 h, cell_at 3 h, cell_at 4 h, cell_at 5 h, cell_at 6 h, cell_at 7 h, cell_at 8 h, cell_at 9 h, cell_at 10 h, cell_at 11 h, cell_at 12 h⟩
theorem eql_keep2 (M : Ms) (b : Bool) (hk : M.i 0 = 2) (hb : Hid (eqM M (keep2 M) = b)) : ∀ w, (binOp .eql 29 (.agg #[.int .i64 2, .int .u64 (M.i 1), .int .u64 (M.i 2), .string M.s, .int .i64 (M.i 4), .int .i64 (M.i 5), .int .i64 (M.i 6), .int .i64 (M.i 7), .int .i64 (M.i 8), .int .i64 (M.i 9), .int .i64 (M.i 10), .int .u64 (M.i 11), .int .u64 (M.i 12)]) (.agg #[.int .i64 2, .int .u64 (M.i 1), .int .u64 (M.i 2), .string ⟨#[]⟩, .int .i64 0, .int .i64 0, .int .i64 (M.i 6), .int .i64 0, .int .i64 (M.i 8), .int .i64 (M.i 9), .int .i64 0, .int .u64 0, .int .u64 0])).run Try.prog w = .ok (.bool b) w := fun w => by
  have h := eqlR M (keep2 M) w
  rw [hb.out] at h
  unfold Ms.v at h
  unfold Ms.cl at h
  rw [hk] at h
  exact h
set_option maxHeartbeats 8000000 in
set_option maxRecDepth 100000 in
theorem rright_2 (M : Ms) (w : World) (hM : M.Wf) (hk : Hid (M.i 0 = 2)) (b : Bool) (hb : Hid (rightM M = b)) :
    Calls Try.prog 13 #[M.v] w fun e w' => e = .returned (.bool b) ∧ Below w.heap.size w w' := by
  have HB := hb
  clear hb
  have HW := Lib.hid hM
  have HS := Lib.hid hM.s
  clear hM
  obtain ⟨q, hq⟩ : ∃ q, q = w.heap.size := ⟨_, rfl⟩
  obtain ⟨wa, hwa⟩ : ∃ wa, wa = w.alloc (.cells M.cl 29) := ⟨_, rfl⟩
  have HM0 : Hid (RAt wa q M) := Lib.hid (by rw [hwa, hq]; exact heap_alloc_new w _)
  have HBA : Hid (Below w.heap.size w wa) := Lib.hid (by rw [hwa]; exact below_alloc _ _)
  have hwa0 := hwa
  have hq0 := hq
  unfold Ms.v
  unfold Ms.cl at hwa ⊢
  rw [hk.out] at hwa ⊢
  replace hwa0 := Lib.hid hwa0
  replace hq0 := Lib.hid hq0
  go_enter Try.func13, Try.ntmps13
  obtain ⟨k0, k1, k2, k3, k4, k5, k6, k7, k8, k9, k10, k11, k12⟩ := HM0.out.cells
  rw [hk.out] at k0
  have l0 := fun o => cell_al k0 o
  have l1 := fun o => cell_al k1 o
  have l2 := fun o => cell_al k2 o
  have l3 := fun o => cell_al k3 o
  have l4 := fun o => cell_al k4 o
  have l5 := fun o => cell_al k5 o
  have l6 := fun o => cell_al k6 o
  have l7 := fun o => cell_al k7 o
  have l8 := fun o => cell_al k8 o
  have l9 := fun o => cell_al k9 o
  have l10 := fun o => cell_al k10 o
  have l11 := fun o => cell_al k11 o
  have l12 := fun o => cell_al k12 o
  rw [hq] at k0 k1 k2 k3 k4 k5 k6 k7 k8 k9 k10 k11 k12 l0 l1 l2 l3 l4 l5 l6 l7 l8 l9 l10 l11 l12
  rw [hwa] at k0 k1 k2 k3 k4 k5 k6 k7 k8 k9 k10 k11 k12 l0 l1 l2 l3 l4 l5 l6 l7 l8 l9 l10 l11 l12
  go_wp2_with fail
  rw [← hwa, ← hq]
  clear k0 k1 k2 k3 k4 k5 k6 k7 k8 k9 k10 k11 k12 l0 l1 l2 l3 l4 l5 l6 l7 l8 l9 l10 l11 l12 hwa hq
  have hk0 : wa.heap.size = q + 1 := by rw [hwa0.out, size_alloc, hq0.out]
  obtain ⟨wb, hwb⟩ : ∃ wb, wb = wa.alloc (.cells (keep2 M).cl 29) := ⟨_, rfl⟩
  have HO : Hid (RAt wb (q + 1) (keep2 M)) := Lib.hid (by rw [hwb, ← hk0]; exact heap_alloc_new wa _)
  have HM : Hid (RAt wb q M) := Lib.hid (by rw [hwb]; exact HM0.out.below (below_alloc _ _))
  have HBB : Hid (Below w.heap.size w wb) := Lib.hid (by rw [hwb]; exact HBA.out.trans ((below_alloc _ _).mono HBA.out.size))
  replace hwb : wb = wa.alloc (.cells #[.int .i64 2, .int .u64 (M.i 1), .int .u64 (M.i 2), .string ⟨#[]⟩, .int .i64 0, .int .i64 0, .int .i64 (M.i 6), .int .i64 0, .int .i64 (M.i 8), .int .i64 (M.i 9), .int .i64 0, .int .u64 0, .int .u64 0] 29) := hwb
  rw [← hwb]
  clear hwb hk0 hwa0 hq0 HM0 HBA
  generalize q + 1 = ob at HO ⊢
  obtain ⟨k0, k1, k2, k3, k4, k5, k6, k7, k8, k9, k10, k11, k12⟩ := HM.out.cells
  rw [hk.out] at k0
  go_wp2_with fail
  cases h0 : inIv 1 4294967296 (M.i 1) with
  | false =>
    refine (rnumber_k (M.i 1) _ false (Lib.hid h0)).mono ?_
    rintro e w0 ⟨rfl, rfl⟩
    have HE : Hid (false = b) := Lib.hid (rno HB.out (fun e => by
      have hh := (right2_iff M hk.out).1 e
      have hv := hh.1
      rw [h0] at hv; cases hv
    ))
    go_wp2
    go_ret
    exact ⟨retB HE.out, HBB.out⟩
  | true =>
    refine (rnumber_k (M.i 1) _ true (Lib.hid h0)).mono ?_
    rintro e w0 ⟨rfl, rfl⟩
    have H0 := Lib.hid h0
    clear h0
    go_wp2_with fail
    cases h1 : inIv 1 4294967296 (M.i 2) with
    | false =>
      refine (rnumber_k (M.i 2) _ false (Lib.hid h1)).mono ?_
      rintro e w1 ⟨rfl, rfl⟩
      have HE : Hid (false = b) := Lib.hid (rno HB.out (fun e => by
        have hh := (right2_iff M hk.out).1 e
        have hv := hh.2.1
        rw [h1] at hv; cases hv
      ))
      go_wp2
      go_ret
      exact ⟨retB HE.out, HBB.out⟩
    | true =>
      refine (rnumber_k (M.i 2) _ true (Lib.hid h1)).mono ?_
      rintro e w1 ⟨rfl, rfl⟩
      have H1 := Lib.hid h1
      clear h1
      go_wp2_with fail
      cases h2 : inIv 1 1048576 (M.i 6) with
      | false =>
        refine (rname_k (M.i 6) _ false (Lib.hid h2)).mono ?_
        rintro e w2 ⟨rfl, rfl⟩
        have HE : Hid (false = b) := Lib.hid (rno HB.out (fun e => by
          have hh := (right2_iff M hk.out).1 e
          have hv := hh.2.2.1
          rw [h2] at hv; cases hv
        ))
        go_wp2
        go_ret
        exact ⟨retB HE.out, HBB.out⟩
      | true =>
        refine (rname_k (M.i 6) _ true (Lib.hid h2)).mono ?_
        rintro e w2 ⟨rfl, rfl⟩
        have H2 := Lib.hid h2
        clear h2
        go_wp2_with fail
        cases h3 : inIv 1 1048576 (M.i 8) with
        | false =>
          refine (rname_k (M.i 8) _ false (Lib.hid h3)).mono ?_
          rintro e w3 ⟨rfl, rfl⟩
          have HE : Hid (false = b) := Lib.hid (rno HB.out (fun e => by
            have hh := (right2_iff M hk.out).1 e
            have hv := hh.2.2.2.1
            rw [h3] at hv; cases hv
          ))
          go_wp2
          go_ret
          exact ⟨retB HE.out, HBB.out⟩
        | true =>
          refine (rname_k (M.i 8) _ true (Lib.hid h3)).mono ?_
          rintro e w3 ⟨rfl, rfl⟩
          have H3 := Lib.hid h3
          clear h3
          go_wp2_with fail
          cases h4 : inIv 1 1048576 (M.i 9) with
          | false =>
            refine (rname_k (M.i 9) _ false (Lib.hid h4)).mono ?_
            rintro e w4 ⟨rfl, rfl⟩
            have HE : Hid (false = b) := Lib.hid (rno HB.out (fun e => by
              have hh := (right2_iff M hk.out).1 e
              have hv := hh.2.2.2.2.1
              rw [h4] at hv; cases hv
            ))
            go_wp2
            go_ret
            exact ⟨retB HE.out, HBB.out⟩
          | true =>
            refine (rname_k (M.i 9) _ true (Lib.hid h4)).mono ?_
            rintro e w4 ⟨rfl, rfl⟩
            have H4 := Lib.hid h4
            clear h4
            have HE : Hid (eqM M (keep2 M) = b) := Lib.hid (by rw [right2_eq M hk.out H0.out H1.out H2.out H3.out H4.out]; exact HB.out)
            have hE := eql_keep2 M b hk.out HE
            have hgd := guardR
            obtain ⟨k0, k1, k2, k3, k4, k5, k6, k7, k8, k9, k10, k11, k12⟩ := HM.out.cells
            obtain ⟨o0, o1, o2, o3, o4, o5, o6, o7, o8, o9, o10, o11, o12⟩ := keep2_cells HO.out
            rw [hk.out] at k0
            go_wp2
            go_ret
            exact ⟨rfl, HBB.out⟩
end Go.Proofs.Ytifpahjlmnimnaa
