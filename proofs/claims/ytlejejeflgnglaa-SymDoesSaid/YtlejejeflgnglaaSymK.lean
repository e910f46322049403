/- What Seal and Open work on; whether they may begin, and that they count. -/
import Derived.Test.YtlejejeflgnglaaSymE
import Derived.BigQuiet
namespace Go.Proofs.Ytlejejeflgnglaa
open Go.RowKit
set_option linter.unusedVariables false
set_option linter.unusedSimpArgs false
set_option maxRecDepth 20000
/-- What a work holds: the store, a state, what is sealed of, and that. -/
def Wk (B g : Nat) (y : Sy) (p s : Int) (w : World) : Prop := w.heap[B]? = some (.cells #[.pointer (some ⟨g, 0, none⟩), .int .i64 y.CK, .int .i64 y.K, .int .i64 y.H, .int .u64 y.N, .int .i64 p, .int .i64 s] 79 (0, 0))

set_option maxHeartbeats 1000000 in
theorem check_c {B g : Nat} {y : Sy} {p s er : Int} {w : World} (hw : Wk B g y p s w) (her : (if y.K = 0 ∨ y.N = lastN then 7 else 0) = er) :
    Calls Try.prog 39 #[.pointer (some ⟨B, 0, none⟩)] w fun e w' => e = .returned (.int .i64 er) ∧ Below w.heap.size w w' := by
  obtain ⟨yc, yk, yh, yn⟩ := y
  unfold Wk at hw
  have hlt := lt_of_block hw
  have c1 := cell_of_row w _ 1 _ _ _ hw
  have c2 := cell_of_row w _ 2 _ _ _ hw
  have c3 := cell_of_row w _ 3 _ _ _ hw
  have c4 := cell_of_row w _ 4 _ _ _ hw
  simp at c1 c2 c3 c4
  have HWK := Lib.hid hw
  clear hw
  have hE1 := eql_Y ⟨yc, yk, yh, yn⟩ ⟨yc, 0, yh, yn⟩
  have hE2 := eql_Y ⟨yc, yk, yh, yn⟩ ⟨yc, yk, yh, 18446744073709551615⟩
  have hgd := guardY
  obtain ⟨t1, h1⟩ : ∃ t, eqY ⟨yc, yk, yh, yn⟩ ⟨yc, 0, yh, yn⟩ = t := ⟨_, rfl⟩
  obtain ⟨t2, h2⟩ : ∃ t, eqY ⟨yc, yk, yh, yn⟩ ⟨yc, yk, yh, 18446744073709551615⟩ = t := ⟨_, rfl⟩
  rw [h1] at hE1
  rw [h2] at hE2
  unfold Sy.v at hE1 hE2
  simp only [] at hE1 hE2
  have e1 : t1 = (yk == 0) := by rw [← h1]; simp [eqY]
  have e2 : t2 = (yn == lastN) := by rw [← h2]; simp [eqY, lastN]
  have HV : Hid ((if t1 = true ∨ t2 = true then 7 else 0) = er) := Lib.hid (by rw [← her, e1, e2]; simp)
  clear h1 h2 e1 e2 her
  go_enter Try.func39, Try.ntmps39
  go_wp2
  go_region
  all_goals
    generalize hW : World.drew (World.alloc (World.alloc w _) _) = W
    have hb : Below w.heap.size w W := by rw [← hW]; exact (((Below.refl _ _).alloc (Nat.le_refl _) _).alloc (by simp) _).drew
    have r0 : W.heap[w.heap.size]? = some (.cells #[.int .i64 yc, .int .i64 yk, .int .i64 yh, .int .u64 yn] 25 (0, 0)) := by
      rw [← hW]; show (World.alloc (World.alloc w _) _).heap[w.heap.size]? = _
      rw [heap_alloc_old _ _ (by simp)]; exact heap_alloc_new w _
    have r1 : W.heap[w.heap.size + 1]? = some (.cells #[.int .i64 yc, .int .i64 yk, .int .i64 yh, .int .u64 yn] 25 (0, 0)) := by
      rw [← hW]
      show (World.alloc (World.alloc w _) _).heap[w.heap.size + 1]? = _
      have := heap_alloc_new (w.alloc (.cells #[.int .i64 yc, .int .i64 yk, .int .i64 yh, .int .u64 yn] 25)) (.cells #[.int .i64 yc, .int .i64 yk, .int .i64 yh, .int .u64 yn] 25)
      simpa using this
    rw [← hb.cell (by exact hlt)] at c1 c2 c3 c4
    have p0 := cell_of_row W _ 0 _ _ _ r0
    have p1 := cell_of_row W _ 1 _ _ _ r0
    have p2 := cell_of_row W _ 2 _ _ _ r0
    have p3 := cell_of_row W _ 3 _ _ _ r0
    have q0 := cell_of_row W _ 0 _ _ _ r1
    have q1 := cell_of_row W _ 1 _ _ _ r1
    have q2 := cell_of_row W _ 2 _ _ _ r1
    have q3 := cell_of_row W _ 3 _ _ _ r1
    simp at p0 p1 p2 p3 q0 q1 q2 q3
    have fp1 := frz_of_row 1 r0
    have fp3 := frz_of_row 3 r0
    have fq1 := frz_of_row 1 r1
    have fq3 := frz_of_row 3 r1
    have HB := Lib.hid hb
    have hB1 : ¬ B = w.heap.size := by omega
    have hB2 : ¬ B = w.heap.size + 1 := by omega
    have hB3 : ¬ w.heap.size = B := by omega
    have hB4 : ¬ w.heap.size + 1 = B := by omega
    clear hW hb r0 r1
    cases t1 with
    | true =>
      have hv := HV.out
      simp at hv
      subst hv
      clear HV
      go_wp2
      go_quiet (fail)
      go_wp2
      go_ret
      exact ⟨rfl, ((HB.out.setCell (by dsimp only; omega) _).setCell (by dsimp only; omega) _).trans ⟨rfl, rfl, rfl, Nat.le_refl _, fun _ _ => rfl⟩⟩
    | false =>
      cases t2 with
      | true =>
        have hv := HV.out
        simp at hv
        subst hv
        clear HV
        go_wp2
        go_quiet (fail)
        go_wp2
        go_ret
        exact ⟨rfl, ((HB.out.setCell (by dsimp only; omega) _).setCell (by dsimp only; omega) _).trans ⟨rfl, rfl, rfl, Nat.le_refl _, fun _ _ => rfl⟩⟩
      | false =>
        have hv := HV.out
        simp at hv
        subst hv
        clear HV
        go_wp2
        go_quiet (fail)
        go_wp2
        go_ret
        exact ⟨rfl, ((HB.out.setCell (by dsimp only; omega) _).setCell (by dsimp only; omega) _).trans ⟨rfl, rfl, rfl, Nat.le_refl _, fun _ _ => rfl⟩⟩
section
variable {base g : Nat} {most : Int} {Q2 : (Nat → Prop) → List Tm → World → Prop} {L L2 : List Tm} {K : Nat → Prop} {w0 w : World}
theorem Wk.of {B : Nat} {y : Sy} {p s : Int} {w w' : World} (h : Wk B g y p s w) (hk : w'.heap[B]? = w.heap[B]?) : Wk B g y p s w' := by unfold Wk at *; rw [hk]; exact h
/-- What a step leaves: its answer, the terms then, the work, and every other block as it was. -/
def Stp (K : Nat → Prop) (B g : Nat) (e : Int) (y : Sy) (p s : Int) (P : World → Prop) (w : World) (e' : Ending) (w' : World) : Prop :=
  e' = .returned (.int .i64 e) ∧ P w' ∧ Wk B g y p s w' ∧ ∀ k, K k → k ≠ B → w'.heap[k]? = w.heap[k]?
theorem u64_in {n : Int} (h : U64 n) : 0 ≤ n ∧ n ≤ 18446744073709551615 := by
  have e1 : IntKind.u64.min = 0 := by decide
  have e2 : IntKind.u64.max = 18446744073709551615 := by decide
  simpa only [U64, Lit.wf, e1, e2, Bool.and_eq_true, decide_eq_true_eq] using h

set_option maxHeartbeats 1000000 in
theorem Pair.countS {B : Nat} {y : Sy} {p s : Int} (g2 : Good base Q2) (h : Pair base (PSq base g most) Q2 L L2 K w0 w) (hB : K B) (hbB : base ≤ B) (hw : Wk B g y p s w) (hn : U64 y.N) (hl : y.N ≠ lastN) :
    Calls Try.prog 41 #[.pointer (some ⟨B, 0, none⟩)] w (Stp K B g 0 ⟨y.CK, y.K, y.H, y.N + 1⟩ p s (Pair base (PSq base g most) Q2 L L2 K w0) w) := by
  have gS := PSq.good base g most
  obtain ⟨yc, yk, yh, yn⟩ := y
  have H := Lib.hid h
  have HW := Lib.hid hw
  have c4 := cell_of_row w _ 4 _ _ _ hw
  have f4 := frz_of_row 4 hw
  simp at c4
  have hb := u64_in hn
  simp only [lastN] at hl
  have HBK := Lib.hid hB
  have HBb := Lib.hid hbB
  have e1 : IntKind.u64.wrap (yn + 1) = yn + 1 := by
    have h1 := hb.1
    have h2 := hb.2
    simp only at hl h1 h2
    simp [IntKind.wrap, IntKind.signed, IntKind.bits]
    omega
  have HE := Lib.hid e1
  clear h hw hn hB hbB hl hb e1
  go_enter Try.func41, Try.ntmps41
  go_wp2
  rw [HE.out]
  go_ret
  have r := row_set 4 (.int .u64 (yn + 1)) HW.out
  simp at r
  exact ⟨rfl, H.out.setAt gS g2 HBK.out HBb.out 4 _, r, fun k q hk => heap_setCell_other _ _ _ _ (by exact hk)⟩
end
end Go.Proofs.Ytlejejeflgnglaa
