/- States compared. -/
/- What Seal and Open work on; whether they may begin, and that they count. -/
/- The step that opens. -/
/- The step that seals. -/
/- What begins, is said, mixed in, and split: contracts of the program's and the document's calls of layer 7, as functions of a store's terms. -/
import Derived.Test.YtgeonppckeiceaaGreatDoorGp19
import Derived.BigQuiet
import Derived.Test.YtgeonppckeiceaaGreatDoorGp06
namespace Go.Proofs.YtgeonppckeiceaaGreatDoor
open Go.RowKit
set_option linter.unusedVariables false
set_option linter.unusedSimpArgs false
set_option maxRecDepth 20000

def eqY (u t : Sy) : Bool := u.CK == t.CK && (u.K == t.K && (u.H == t.H && u.N == t.N))
theorem heldY : Tryz.prog.stoodInHeld 45 = false := by kernel_rfl
theorem guardY : Tryz.prog.eqGuardType Tryz.prog.depth 45 = false := by kernel_rfl
theorem fieldsY : Tryz.prog.underlying 45 = some (.struct (Tryz.prog.fieldsOf 45)) := by kernel_rfl
theorem equal_Y (u t : Sy) (w : World) : (Op.equalIn 10000 45 u.v t.v).run Tryz.prog w = .ok (eqY u t) w := by
  unfold Sy.v
  rw [run_equalIn_agg _ _ _ _ _ fieldsY heldY]
  have hf : (Tryz.prog.fieldsOf 45).toList = (match Tryz.prog.underlying 45 with | some (.struct fs) => fs.toList | _ => []) := by kernel_rfl
  rw [hf, Tryz.underlying45]
  have i3 := fun (w : World) (a b : Int) => run_equalIn_int (P := Tryz.prog) w 9998 3 .i64 .i64 a b Tryz.underlying3
  have i30 := fun (w : World) (a b : Int) => run_equalIn_int (P := Tryz.prog) w 9998 23 .u64 .u64 a b Tryz.underlying23
  simp only [Op.eqFields, eqY]
  cases h1 : (u.CK == t.CK)
  · go_simp
  cases h2 : (u.K == t.K)
  · go_simp
  cases h3 : (u.H == t.H)
  · go_simp
  cases h4 : (u.N == t.N)
  · go_simp
  go_simp
theorem eql_Y (u t : Sy) (w : World) : (binOp .eql 45 u.v t.v).run Tryz.prog w = .ok (.bool (eqY u t)) w := by
  have h := equal_Y u t w
  unfold Sy.v at *
  rw [run_eql_struct, h]; rfl
end Go.Proofs.YtgeonppckeiceaaGreatDoor
namespace Go.Proofs.YtgeonppckeiceaaGreatDoor
open Go.RowKit
set_option linter.unusedVariables false
set_option linter.unusedSimpArgs false
set_option maxRecDepth 20000
/-- What a work holds: the store, a state, what is sealed of, and that. -/
def Wk (B g : Nat) (y : Sy) (p s : Int) (w : World) : Prop := w.heap[B]? = some (.cells #[.pointer (some ⟨g, 0, none⟩), .int .i64 y.CK, .int .i64 y.K, .int .i64 y.H, .int .u64 y.N, .int .i64 p, .int .i64 s] 270 (0, 0))

set_option maxHeartbeats 1000000 in
theorem check_c {B g : Nat} {y : Sy} {p s er : Int} {w : World} (hw : Wk B g y p s w) (her : (if y.K = 0 ∨ y.N = lastN then 7 else 0) = er) :
    Calls Tryz.prog 206 #[.pointer (some ⟨B, 0, none⟩)] w fun e w' => e = .returned (.int .i64 er) ∧ Below w.heap.size w w' := by
  obtain ⟨yc, yk, yh, yn⟩ := y
  unfold Wk at hw
  have hlt := lt_of_block hw
  have c1 := cell_of_row w _ 1 _ _ _ hw
  have c2 := cell_of_row w _ 2 _ _ _ hw
  have c3 := cell_of_row w _ 3 _ _ _ hw
  have c4 := cell_of_row w _ 4 _ _ _ hw
  simp at c1 c2 c3 c4
  have HWK := Lib.hid hw
  clear hw
  have hE1 := eql_Y ⟨yc, yk, yh, yn⟩ ⟨yc, 0, yh, yn⟩
  have hE2 := eql_Y ⟨yc, yk, yh, yn⟩ ⟨yc, yk, yh, 18446744073709551615⟩
  have hgd := guardY
  obtain ⟨t1, h1⟩ : ∃ t, eqY ⟨yc, yk, yh, yn⟩ ⟨yc, 0, yh, yn⟩ = t := ⟨_, rfl⟩
  obtain ⟨t2, h2⟩ : ∃ t, eqY ⟨yc, yk, yh, yn⟩ ⟨yc, yk, yh, 18446744073709551615⟩ = t := ⟨_, rfl⟩
  rw [h1] at hE1
  rw [h2] at hE2
  unfold Sy.v at hE1 hE2
  simp only [] at hE1 hE2
  have e1 : t1 = (yk == 0) := by rw [← h1]; simp [eqY]
  have e2 : t2 = (yn == lastN) := by rw [← h2]; simp [eqY, lastN]
  have HV : Hid ((if t1 = true ∨ t2 = true then 7 else 0) = er) := Lib.hid (by rw [← her, e1, e2]; simp)
  clear h1 h2 e1 e2 her
  go_enter Tryz.func206, Tryz.ntmps206
  go_wp2
  go_region
  all_goals
    generalize hW : World.drew (World.alloc (World.alloc w _) _) = W
    have hb : Below w.heap.size w W := by rw [← hW]; exact (((Below.refl _ _).alloc (Nat.le_refl _) _).alloc (by simp) _).drew
    have r0 : W.heap[w.heap.size]? = some (.cells #[.int .i64 yc, .int .i64 yk, .int .i64 yh, .int .u64 yn] 45 (0, 0)) := by
      rw [← hW]; show (World.alloc (World.alloc w _) _).heap[w.heap.size]? = _
      rw [heap_alloc_old _ _ (by simp)]; exact heap_alloc_new w _
    have r1 : W.heap[w.heap.size + 1]? = some (.cells #[.int .i64 yc, .int .i64 yk, .int .i64 yh, .int .u64 yn] 45 (0, 0)) := by
      rw [← hW]
      show (World.alloc (World.alloc w _) _).heap[w.heap.size + 1]? = _
      have := heap_alloc_new (w.alloc (.cells #[.int .i64 yc, .int .i64 yk, .int .i64 yh, .int .u64 yn] 45)) (.cells #[.int .i64 yc, .int .i64 yk, .int .i64 yh, .int .u64 yn] 45)
      simpa using this
    rw [← hb.cell (by exact hlt)] at c1 c2 c3 c4
    have p0 := cell_of_row W _ 0 _ _ _ r0
    have p1 := cell_of_row W _ 1 _ _ _ r0
    have p2 := cell_of_row W _ 2 _ _ _ r0
    have p3 := cell_of_row W _ 3 _ _ _ r0
    have q0 := cell_of_row W _ 0 _ _ _ r1
    have q1 := cell_of_row W _ 1 _ _ _ r1
    have q2 := cell_of_row W _ 2 _ _ _ r1
    have q3 := cell_of_row W _ 3 _ _ _ r1
    simp at p0 p1 p2 p3 q0 q1 q2 q3
    have fp1 := frz_of_row 1 r0
    have fp3 := frz_of_row 3 r0
    have fq1 := frz_of_row 1 r1
    have fq3 := frz_of_row 3 r1
    have HB := Lib.hid hb
    have hB1 : ¬ B = w.heap.size := by omega
    have hB2 : ¬ B = w.heap.size + 1 := by omega
    have hB3 : ¬ w.heap.size = B := by omega
    have hB4 : ¬ w.heap.size + 1 = B := by omega
    clear hW hb r0 r1
    cases t1 with
    | true =>
      have hv := HV.out
      simp at hv
      subst hv
      clear HV
      go_wp2
      go_quiet (fail)
      go_wp2
      go_ret
      exact ⟨rfl, ((HB.out.setCell (by dsimp only; omega) _).setCell (by dsimp only; omega) _).trans ⟨rfl, rfl, rfl, Nat.le_refl _, fun _ _ => rfl⟩⟩
    | false =>
      cases t2 with
      | true =>
        have hv := HV.out
        simp at hv
        subst hv
        clear HV
        go_wp2
        go_quiet (fail)
        go_wp2
        go_ret
        exact ⟨rfl, ((HB.out.setCell (by dsimp only; omega) _).setCell (by dsimp only; omega) _).trans ⟨rfl, rfl, rfl, Nat.le_refl _, fun _ _ => rfl⟩⟩
      | false =>
        have hv := HV.out
        simp at hv
        subst hv
        clear HV
        go_wp2
        go_quiet (fail)
        go_wp2
        go_ret
        exact ⟨rfl, ((HB.out.setCell (by dsimp only; omega) _).setCell (by dsimp only; omega) _).trans ⟨rfl, rfl, rfl, Nat.le_refl _, fun _ _ => rfl⟩⟩
section
variable {base g : Nat} {most : Int} {Q2 : (Nat → Prop) → List Tm → World → Prop} {L L2 : List Tm} {K : Nat → Prop} {w0 w : World}
theorem Wk.of {B : Nat} {y : Sy} {p s : Int} {w w' : World} (h : Wk B g y p s w) (hk : w'.heap[B]? = w.heap[B]?) : Wk B g y p s w' := by unfold Wk at *; rw [hk]; exact h
/-- What a step leaves: its answer, the terms then, the work, and every other block as it was. -/
def Stp (K : Nat → Prop) (B g : Nat) (e : Int) (y : Sy) (p s : Int) (P : World → Prop) (w : World) (e' : Ending) (w' : World) : Prop :=
  e' = .returned (.int .i64 e) ∧ P w' ∧ Wk B g y p s w' ∧ ∀ k, K k → k ≠ B → w'.heap[k]? = w.heap[k]?
theorem u64_in {n : Int} (h : U64 n) : 0 ≤ n ∧ n ≤ 18446744073709551615 := by
  have e1 : IntKind.u64.min = 0 := by decide
  have e2 : IntKind.u64.max = 18446744073709551615 := by decide
  simpa only [U64, Lit.wf, e1, e2, Bool.and_eq_true, decide_eq_true_eq] using h

set_option maxHeartbeats 1000000 in
theorem Pair.countS {B : Nat} {y : Sy} {p s : Int} (g2 : Good base Q2) (h : Pair base (PSq base g most) Q2 L L2 K w0 w) (hB : K B) (hbB : base ≤ B) (hw : Wk B g y p s w) (hn : U64 y.N) (hl : y.N ≠ lastN) :
    Calls Tryz.prog 208 #[.pointer (some ⟨B, 0, none⟩)] w (Stp K B g 0 ⟨y.CK, y.K, y.H, y.N + 1⟩ p s (Pair base (PSq base g most) Q2 L L2 K w0) w) := by
  have gS := PSq.good base g most
  obtain ⟨yc, yk, yh, yn⟩ := y
  have H := Lib.hid h
  have HW := Lib.hid hw
  have c4 := cell_of_row w _ 4 _ _ _ hw
  have f4 := frz_of_row 4 hw
  simp at c4
  have hb := u64_in hn
  simp only [lastN] at hl
  have HBK := Lib.hid hB
  have HBb := Lib.hid hbB
  have e1 : IntKind.u64.wrap (yn + 1) = yn + 1 := by
    have h1 := hb.1
    have h2 := hb.2
    simp only at hl h1 h2
    simp [IntKind.wrap, IntKind.signed, IntKind.bits]
    omega
  have HE := Lib.hid e1
  clear h hw hn hB hbB hl hb e1
  go_enter Tryz.func208, Tryz.ntmps208
  go_wp2
  rw [HE.out]
  go_ret
  have r := row_set 4 (.int .u64 (yn + 1)) HW.out
  simp at r
  exact ⟨rfl, H.out.setAt gS g2 HBK.out HBb.out 4 _, r, fun k q hk => heap_setCell_other _ _ _ _ (by exact hk)⟩
end
end Go.Proofs.YtgeonppckeiceaaGreatDoor
namespace Go.Proofs.YtgeonppckeiceaaGreatDoor
open Go.RowKit
set_option linter.unusedVariables false
set_option linter.unusedSimpArgs false
set_option maxRecDepth 20000
section
variable {base g : Nat} {most : Int} {Q2 : (Nat → Prop) → List Tm → World → Prop} {L L2 : List Tm} {K : Nat → Prop} {w0 w : World}

set_option maxHeartbeats 2000000 in
theorem Pair.openS {B : Nat} {y : Sy} {p s a e : Int} (g2 : Good base Q2) (h : Pair base (PSq base g most) Q2 L L2 K w0 w) (hB : K B) (hbB : base ≤ B) (hw : Wk B g y p s w) (hf : openF L y.K y.N y.H s = (a, e)) :
    Calls Tryz.prog 212 #[.pointer (some ⟨B, 0, none⟩)] w (Stp K B g e y a s (Pair base (PSq base g most) Q2 L L2 K w0) w) := by
  have gS := PSq.good base g most
  obtain ⟨yc, yk, yh, yn⟩ := y
  have hd : Below w.heap.size w w.drew := (Below.refl _ _).drew
  have HPd := Lib.hid (h.below gS g2 hd)
  have HKl := Lib.hid h.klt
  have hlt := lt_of_block hw
  have hw' : Wk B g ⟨yc, yk, yh, yn⟩ p s w.drew := hw.of (hd.block B hlt)
  have HW := Lib.hid hw'
  have HBK := Lib.hid hB
  have HBb := Lib.hid hbB
  have hS : w.drew.cell? ⟨B, 0, none⟩ = some (.pointer (some ⟨g, 0, none⟩)) ∧ w.drew.cell? ⟨B, 2, none⟩ = some (.int .i64 yk) ∧ w.drew.cell? ⟨B, 3, none⟩ = some (.int .i64 yh) ∧ w.drew.cell? ⟨B, 4, none⟩ = some (.int .u64 yn) ∧ w.drew.cell? ⟨B, 6, none⟩ = some (.int .i64 s) :=
    ⟨cell_of_row _ _ 0 _ _ _ hw', cell_of_row _ _ 2 _ _ _ hw', cell_of_row _ _ 3 _ _ _ hw', cell_of_row _ _ 4 _ _ _ hw', cell_of_row _ _ 6 _ _ _ hw'⟩
  have hS' := hS
  have HC : Hid (∀ W, Pair base (PSq base g most) Q2 L L2 K w0 W → Calls Tryz.prog 222 #[.pointer (some ⟨g, 0, none⟩), .int .i64 yk, .int .u64 yn, .int .i64 yh, .int .i64 s] W (Two (.int .i64 a) (.int .i64 e) (Pair base (PSq base g most) Q2 L L2 K w0) W)) :=
    Lib.hid (fun W h => h.aopenP g2 hf)
  clear h hw hw' hf hB hbB hd
  go_enter Tryz.func212, Tryz.ntmps212
  go_wp2
  go_region_held3 (fun w' => w'.cell? ⟨B, 0, none⟩ = some (.pointer (some ⟨g, 0, none⟩)) ∧ w'.cell? ⟨B, 2, none⟩ = some (.int .i64 yk) ∧ w'.cell? ⟨B, 3, none⟩ = some (.int .i64 yh) ∧ w'.cell? ⟨B, 4, none⟩ = some (.int .u64 yn) ∧ w'.cell? ⟨B, 6, none⟩ = some (.int .i64 s)) (first | assumption | go_keep | (refine ⟨?_, ?_, ?_, ?_, ?_⟩ <;> (rw [World.cell?_setCell_other _ _ _ _ (by simp)]; simp [hS2]))) ((go_at_call 222; refine (HC.out _ HPd.out).mono ?_; rintro e1 w2 ⟨rfl, hp2, hk2⟩; have hw2 := HW.out.of (hk2.block B (by exact hlt)); have hS2 : w2.cell? ⟨B, 0, none⟩ = some (.pointer (some ⟨g, 0, none⟩)) ∧ w2.cell? ⟨B, 2, none⟩ = some (.int .i64 yk) ∧ w2.cell? ⟨B, 3, none⟩ = some (.int .i64 yh) ∧ w2.cell? ⟨B, 4, none⟩ = some (.int .u64 yn) ∧ w2.cell? ⟨B, 6, none⟩ = some (.int .i64 s) := ⟨cell_of_row _ _ 0 _ _ _ hw2, cell_of_row _ _ 2 _ _ _ hw2, cell_of_row _ _ 3 _ _ _ hw2, cell_of_row _ _ 4 _ _ _ hw2, cell_of_row _ _ 6 _ _ _ hw2⟩; have h62 : w2.cell? ⟨B, 5, none⟩ = some (.int .i64 p) := cell_of_row _ _ 5 _ _ _ hw2; have hfz2 := frz_of_row (w := w2) 5 hw2; have HP2 := Lib.hid hp2; have HK2 := Lib.hid hk2; have HW2 := Lib.hid hw2; clear hp2 hk2 hw2))
  go_wp2
  go_ret
  have r := row_set 5 (.int .i64 a) HW2.out
  simp at r
  exact ⟨rfl, HP2.out.setAt gS g2 HBK.out HBb.out 5 _, r, fun k q hk => (heap_setCell_other _ _ _ _ (by exact hk)).trans (HK2.out.block k (HKl.out k q))⟩
end
end Go.Proofs.YtgeonppckeiceaaGreatDoor
namespace Go.Proofs.YtgeonppckeiceaaGreatDoor
open Go.RowKit
set_option linter.unusedVariables false
set_option linter.unusedSimpArgs false
set_option maxRecDepth 20000
section
variable {base g : Nat} {most : Int} {Q2 : (Nat → Prop) → List Tm → World → Prop} {L L2 : List Tm} {K : Nat → Prop} {w0 w : World}

set_option maxHeartbeats 2000000 in
theorem Pair.sealS {L' : List Tm} {B : Nat} {y : Sy} {p s a e : Int} (g2 : Good base Q2) (h : Pair base (PSq base g most) Q2 L L2 K w0 w) (hB : K B) (hbB : base ≤ B) (hw : Wk B g y p s w) (hy : y.Wf) (hp : I64 p) (hf : putF L most (sealT y.K y.N y.H p) = (a, e, L')) :
    Calls Tryz.prog 207 #[.pointer (some ⟨B, 0, none⟩)] w (Stp K B g e y p a (Pair base (PSq base g most) Q2 L' L2 K w0) w) := by
  have gS := PSq.good base g most
  obtain ⟨yc, yk, yh, yn⟩ := y
  have hd : Below w.heap.size w w.drew := (Below.refl _ _).drew
  have HPd := Lib.hid (h.below gS g2 hd)
  have HKl := Lib.hid h.klt
  have hlt := lt_of_block hw
  have hw' : Wk B g ⟨yc, yk, yh, yn⟩ p s w.drew := hw.of (hd.block B hlt)
  have HW := Lib.hid hw'
  have HBK := Lib.hid hB
  have HBb := Lib.hid hbB
  have hS : w.drew.cell? ⟨B, 0, none⟩ = some (.pointer (some ⟨g, 0, none⟩)) ∧ w.drew.cell? ⟨B, 2, none⟩ = some (.int .i64 yk) ∧ w.drew.cell? ⟨B, 3, none⟩ = some (.int .i64 yh) ∧ w.drew.cell? ⟨B, 4, none⟩ = some (.int .u64 yn) ∧ w.drew.cell? ⟨B, 5, none⟩ = some (.int .i64 p) :=
    ⟨cell_of_row _ _ 0 _ _ _ hw', cell_of_row _ _ 2 _ _ _ hw', cell_of_row _ _ 3 _ _ _ hw', cell_of_row _ _ 4 _ _ _ hw', cell_of_row _ _ 5 _ _ _ hw'⟩
  have hS' := hS
  have HC : Hid (∀ W, Pair base (PSq base g most) Q2 L L2 K w0 W → Calls Tryz.prog 220 #[.pointer (some ⟨g, 0, none⟩), .int .i64 yk, .int .u64 yn, .int .i64 yh, .int .i64 p] W (TwoK (.int .i64 a) (.int .i64 e) (Pair base (PSq base g most) Q2 L' L2 K w0) K W)) :=
    Lib.hid (fun W h => h.sealP g2 hy.k hy.n hy.h hp hf)
  clear h hw hw' hy hp hf hB hbB hd
  go_enter Tryz.func207, Tryz.ntmps207
  go_wp2
  go_region_held3 (fun w' => w'.cell? ⟨B, 0, none⟩ = some (.pointer (some ⟨g, 0, none⟩)) ∧ w'.cell? ⟨B, 2, none⟩ = some (.int .i64 yk) ∧ w'.cell? ⟨B, 3, none⟩ = some (.int .i64 yh) ∧ w'.cell? ⟨B, 4, none⟩ = some (.int .u64 yn) ∧ w'.cell? ⟨B, 5, none⟩ = some (.int .i64 p)) (first | assumption | go_keep | (refine ⟨?_, ?_, ?_, ?_, ?_⟩ <;> (rw [World.cell?_setCell_other _ _ _ _ (by simp)]; simp [hS2]))) ((go_at_call 220; refine (HC.out _ HPd.out).mono ?_; rintro e1 w2 ⟨rfl, hp2, hk2⟩; have hw2 := HW.out.of (hk2 B HBK.out); have hS2 : w2.cell? ⟨B, 0, none⟩ = some (.pointer (some ⟨g, 0, none⟩)) ∧ w2.cell? ⟨B, 2, none⟩ = some (.int .i64 yk) ∧ w2.cell? ⟨B, 3, none⟩ = some (.int .i64 yh) ∧ w2.cell? ⟨B, 4, none⟩ = some (.int .u64 yn) ∧ w2.cell? ⟨B, 5, none⟩ = some (.int .i64 p) := ⟨cell_of_row _ _ 0 _ _ _ hw2, cell_of_row _ _ 2 _ _ _ hw2, cell_of_row _ _ 3 _ _ _ hw2, cell_of_row _ _ 4 _ _ _ hw2, cell_of_row _ _ 5 _ _ _ hw2⟩; have h62 : w2.cell? ⟨B, 6, none⟩ = some (.int .i64 s) := cell_of_row _ _ 6 _ _ _ hw2; have hfz2 := frz_of_row (w := w2) 6 hw2; have HP2 := Lib.hid hp2; have HK2 := Lib.hid hk2; have HW2 := Lib.hid hw2; clear hp2 hk2 hw2))
  go_wp2
  go_ret
  have r := row_set 6 (.int .i64 a) HW2.out
  simp at r
  exact ⟨rfl, HP2.out.setAt gS g2 HBK.out HBb.out 6 _, r, fun k q hk => (heap_setCell_other _ _ _ _ (by exact hk)).trans (HK2.out k q)⟩
end
end Go.Proofs.YtgeonppckeiceaaGreatDoor
namespace Go.Proofs.YtgeonppckeiceaaGreatDoor
open Go.RowKit
set_option linter.unusedVariables false
set_option linter.unusedSimpArgs false
section
variable {base g : Nat} {most : Int} {Q2 : (Nat → Prop) → List Tm → World → Prop} {L L2 : List Tm} {K : Nat → Prop} {w0 w : World}

set_option maxHeartbeats 400000 in
theorem Pair.textOfP {L' : List Tm} {S : ByteArray} {a e : Int} (g2 : Good base Q2) (h : Pair base (PSq base g most) Q2 L L2 K w0 w) (hS : S.size ≤ maxLen) (hf : putF L most (textT S) = (a, e, L')) :
    Calls Tryz.prog 198 #[.pointer (some ⟨g, 0, none⟩), .string S] w (TwoK (.int .i64 a) (.int .i64 e) (Pair base (PSq base g most) Q2 L' L2 K w0) K w) := by
  have H := Lib.hid h
  have HS := Lib.hid hS
  have HF := Lib.hid hf
  clear h hS hf
  go_enter Tryz.func198, Tryz.ntmps198
  go_wp2_with fail
  refine (H.out.putP g2 (textT S) (text_wf HS.out) HF.out).mono ?_
  rintro e w1 ⟨rfl, h1, hk⟩
  have H1 := Lib.hid h1
  have HK := Lib.hid hk
  clear h1 hk H HF
  go_wp2_with fail
  go_ret2
  exact ⟨rfl, H1.out, HK.out⟩

set_option maxHeartbeats 1000000 in
theorem Pair.beginP {L' : List Tm} {S : ByteArray} {y' : Sy} {e : Int} (g2 : Good base Q2) (h : Pair base (PSq base g most) Q2 L L2 K w0 w) (hS : S.size ≤ maxLen) (hf : beginF L most S = (y', e, L')) :
    Calls Tryz.prog 167 #[.pointer (some ⟨g, 0, none⟩), .string S] w (TwoK y'.v (.int .i64 e) (Pair base (PSq base g most) Q2 L' L2 K w0) K w) := by
  have gS := PSq.good base g most
  obtain ⟨a, f, M, q⟩ : ∃ a f M, putF L most (textT S) = (a, f, M) := ⟨_, _, _, rfl⟩
  obtain ⟨hb, hr, hk⟩ := h.box1 gS g2 #[.int .i64 0, .int .i64 0, .int .i64 0, .int .u64 0] 45
  have HB := Lib.hid hb
  have HR := Lib.hid hr
  have HK0 := Lib.hid hk
  have HKl := Lib.hid h.klt
  have HBL := Lib.hid h.base_le
  have HS := Lib.hid hS
  have HF := Lib.hid hf
  have HQ := Lib.hid q
  clear h hS hf q hb hr hk
  by_cases hf0 : f = 0
  · subst hf0
    have hw := HF.out
    rw [begin_yes HQ.out] at hw
    injection hw with e1 hw
    injection hw with e2 e3
    subst e1 e2 e3
    clear HF
    go_enter Tryz.func167, Tryz.ntmps167
    go_wp2_with fail
    refine (HB.out.textOfP g2 HS.out HQ.out).mono ?_
    rintro e w1 ⟨rfl, hp, hk⟩
    have H1 := Lib.hid hp
    have h1 := (hk _ (.inr rfl)).trans HR.out
    have HK1 := Lib.hid (show ∀ k, K k → w1.heap[k]? = w.heap[k]? from fun k q => (hk k (.inl q)).trans (HK0.out k q))
    have z0 := cell_of_row w1 _ 0 _ _ _ h1
    have z1 := cell_of_row w1 _ 1 _ _ _ h1
    have z2 := cell_of_row w1 _ 2 _ _ _ h1
    have z3 := cell_of_row w1 _ 3 _ _ _ h1
    simp at z0 z1 z2 z3
    have fz0 := frz_of_row 0 h1
    have fz1 := frz_of_row 1 h1
    have fz2 := frz_of_row 2 h1
    have fz3 := frz_of_row 3 h1
    clear hp hk h1 HB
    go_wp2_with fail
    exact bodyPost_ret (v := .tuple #[.agg #[.int .i64 a, .int .i64 0, .int .i64 a, .int .u64 0], .int .i64 0]) (by simp [results, Tryz.results167, go_sem, zeroY, Sy.v, z0, z1, z2, z3]) rfl
      ⟨rfl, (H1.out.set4 gS g2 (.inr rfl) HBL.out 0 _ _ _ _).less (fun k q => .inl q), fun k q => (set4_other _ _ _ _ _ _ _ _ (by have := HKl.out k q; omega)).trans (HK1.out k q)⟩
  · have hne : (f != 0) = true := by simpa using hf0
    have HE := Lib.hid hf0
    clear hf0
    have hw := HF.out
    rw [begin_no HQ.out HE.out] at hw
    injection hw with e1 hw
    injection hw with e2 e3
    subst e1 e2 e3
    clear HF
    go_enter Tryz.func167, Tryz.ntmps167
    go_wp2_with fail
    refine (HB.out.textOfP g2 HS.out HQ.out).mono ?_
    rintro e w1 ⟨rfl, hp, hk⟩
    have H1 := Lib.hid hp
    have h1 := (hk _ (.inr rfl)).trans HR.out
    have HK1 := Lib.hid (show ∀ k, K k → w1.heap[k]? = w.heap[k]? from fun k q => (hk k (.inl q)).trans (HK0.out k q))
    have z0 := cell_of_row w1 _ 0 _ _ _ h1
    have z1 := cell_of_row w1 _ 1 _ _ _ h1
    have z2 := cell_of_row w1 _ 2 _ _ _ h1
    have z3 := cell_of_row w1 _ 3 _ _ _ h1
    simp at z0 z1 z2 z3
    have fz0 := frz_of_row 0 h1
    have fz1 := frz_of_row 1 h1
    have fz2 := frz_of_row 2 h1
    have fz3 := frz_of_row 3 h1
    clear hp hk h1 HB
    go_wp2_with fail
    exact bodyPost_ret (v := .tuple #[zeroY.v, .int .i64 f]) (by simp [results, Tryz.results167, go_sem, zeroY, Sy.v, z0, z1, z2, z3]) rfl
      ⟨rfl, (H1.out.set4 gS g2 (.inr rfl) HBL.out 0 _ _ _ _).less (fun k q => .inl q), fun k q => (set4_other _ _ _ _ _ _ _ _ (by have := HKl.out k q; omega)).trans (HK1.out k q)⟩

set_option maxHeartbeats 1000000 in
theorem Pair.sayP {L' : List Tm} {y y' : Sy} {e x : Int} (g2 : Good base Q2) (h : Pair base (PSq base g most) Q2 L L2 K w0 w) (hy : y.Wf) (hx : I64 x) (hf : sayF L most y x = (y', e, L')) :
    Calls Tryz.prog 180 #[y.v, .pointer (some ⟨g, 0, none⟩), .int .i64 x] w (TwoK y'.v (.int .i64 e) (Pair base (PSq base g most) Q2 L' L2 K w0) K w) := by
  have gS := PSq.good base g most
  obtain ⟨yc, yk, yh, yn⟩ := y
  obtain ⟨a, f, M, q⟩ : ∃ a f M, putF L most (hashT yh x) = (a, f, M) := ⟨_, _, _, rfl⟩
  obtain ⟨hb, hr0, hr1, hk⟩ := h.box2 gS g2 #[.int .i64 yc, .int .i64 yk, .int .i64 yh, .int .u64 yn] #[.int .i64 0, .int .i64 0, .int .i64 0, .int .u64 0] 45 45
  have HB := Lib.hid hb
  have HR0 := Lib.hid hr0
  have HR1 := Lib.hid hr1
  have HK0 := Lib.hid hk
  have HKl := Lib.hid h.klt
  have HBL := Lib.hid h.base_le
  have HC : Hid (I64 yc) := Lib.hid hy.ck
  have HH : Hid (I64 yh) := Lib.hid hy.h
  have HX := Lib.hid hx
  have HF := Lib.hid hf
  have HQ := Lib.hid q
  unfold Sy.v
  clear h hy hx hf q hb hr0 hr1 hk
  by_cases hf0 : f = 0
  · subst hf0
    have hw := HF.out
    rw [say_yes (y := ⟨yc, yk, yh, yn⟩) HQ.out] at hw
    injection hw with e1 hw
    injection hw with e2 e3
    subst e1 e2 e3
    clear HF
    go_enter Tryz.func180, Tryz.ntmps180
    go_wp2_with fail
    refine (HB.out.hashP g2 HH.out HX.out HQ.out).mono ?_
    rintro e w1 ⟨rfl, hp, hk⟩
    have H1 := Lib.hid hp
    have h0 := (hk _ (.inr (.inl rfl))).trans HR0.out
    have h1 := (hk _ (.inr (.inr rfl))).trans HR1.out
    have HK1 := Lib.hid (show ∀ k, K k → w1.heap[k]? = w.heap[k]? from fun k q => (hk k (.inl q)).trans (HK0.out k q))
    have y0 := cell_of_row w1 _ 0 _ _ _ h0
    have y1 := cell_of_row w1 _ 1 _ _ _ h0
    have y2 := cell_of_row w1 _ 2 _ _ _ h0
    have y3 := cell_of_row w1 _ 3 _ _ _ h0
    simp at y0 y1 y2 y3
    have fy0 := frz_of_row 0 h0
    have fy1 := frz_of_row 1 h0
    have fy2 := frz_of_row 2 h0
    have fy3 := frz_of_row 3 h0
    have z0 := cell_of_row w1 _ 0 _ _ _ h1
    have z1 := cell_of_row w1 _ 1 _ _ _ h1
    have z2 := cell_of_row w1 _ 2 _ _ _ h1
    have z3 := cell_of_row w1 _ 3 _ _ _ h1
    simp at z0 z1 z2 z3
    have fz0 := frz_of_row 0 h1
    have fz1 := frz_of_row 1 h1
    have fz2 := frz_of_row 2 h1
    have fz3 := frz_of_row 3 h1
    clear hp hk h0 h1 HB
    go_wp2_with fail
    exact bodyPost_ret (v := .tuple #[.agg #[.int .i64 yc, .int .i64 yk, .int .i64 a, .int .u64 yn], .int .i64 0]) (by simp [results, Tryz.results180, go_sem, zeroY, Sy.v, z0, z1, z2, z3, y0, y1, y2, y3]) rfl
      ⟨rfl, ((H1.out.setAt gS g2 (.inr (.inl rfl)) HBL.out 2 _).set4 gS g2 (.inr (.inr rfl)) (by have := HBL.out; omega) 0 _ _ _ _).less (fun k q => .inl q), fun k q => (set4_other _ _ _ _ _ _ _ _ (by have := HKl.out k q; omega)).trans ((heap_setCell_other _ _ _ _ (by have := HKl.out k q; dsimp only; omega)).trans (HK1.out k q))⟩
  · have hne : (f != 0) = true := by simpa using hf0
    have HE := Lib.hid hf0
    clear hf0
    have hw := HF.out
    rw [say_no (y := ⟨yc, yk, yh, yn⟩) HQ.out HE.out] at hw
    injection hw with e1 hw
    injection hw with e2 e3
    subst e1 e2 e3
    clear HF
    go_enter Tryz.func180, Tryz.ntmps180
    go_wp2_with fail
    refine (HB.out.hashP g2 HH.out HX.out HQ.out).mono ?_
    rintro e w1 ⟨rfl, hp, hk⟩
    have H1 := Lib.hid hp
    have h0 := (hk _ (.inr (.inl rfl))).trans HR0.out
    have h1 := (hk _ (.inr (.inr rfl))).trans HR1.out
    have HK1 := Lib.hid (show ∀ k, K k → w1.heap[k]? = w.heap[k]? from fun k q => (hk k (.inl q)).trans (HK0.out k q))
    have y0 := cell_of_row w1 _ 0 _ _ _ h0
    have y1 := cell_of_row w1 _ 1 _ _ _ h0
    have y2 := cell_of_row w1 _ 2 _ _ _ h0
    have y3 := cell_of_row w1 _ 3 _ _ _ h0
    simp at y0 y1 y2 y3
    have fy0 := frz_of_row 0 h0
    have fy1 := frz_of_row 1 h0
    have fy2 := frz_of_row 2 h0
    have fy3 := frz_of_row 3 h0
    have z0 := cell_of_row w1 _ 0 _ _ _ h1
    have z1 := cell_of_row w1 _ 1 _ _ _ h1
    have z2 := cell_of_row w1 _ 2 _ _ _ h1
    have z3 := cell_of_row w1 _ 3 _ _ _ h1
    simp at z0 z1 z2 z3
    have fz0 := frz_of_row 0 h1
    have fz1 := frz_of_row 1 h1
    have fz2 := frz_of_row 2 h1
    have fz3 := frz_of_row 3 h1
    clear hp hk h0 h1 HB
    go_wp2_with fail
    exact bodyPost_ret (v := .tuple #[zeroY.v, .int .i64 f]) (by simp [results, Tryz.results180, go_sem, zeroY, Sy.v, z0, z1, z2, z3, y0, y1, y2, y3]) rfl
      ⟨rfl, ((H1.out).set4 gS g2 (.inr (.inr rfl)) (by have := HBL.out; omega) 0 _ _ _ _).less (fun k q => .inl q), fun k q => (set4_other _ _ _ _ _ _ _ _ (by have := HKl.out k q; omega)).trans (HK1.out k q)⟩

set_option maxHeartbeats 1000000 in
theorem Pair.turnP {L' : List Tm} {y y' : Sy} {e x : Int} (g2 : Good base Q2) (h : Pair base (PSq base g most) Q2 L L2 K w0 w) (hy : y.Wf) (hx : I64 x) (hf : turnF L most y x = (y', e, L')) :
    Calls Tryz.prog 173 #[y.v, .pointer (some ⟨g, 0, none⟩), .int .i64 x] w (TwoK y'.v (.int .i64 e) (Pair base (PSq base g most) Q2 L' L2 K w0) K w) := by
  have gS := PSq.good base g most
  obtain ⟨yc, yk, yh, yn⟩ := y
  obtain ⟨a, b, f, M, q⟩ : ∃ a b f M, mixF L most yc x = (a, b, f, M) := ⟨_, _, _, _, rfl⟩
  obtain ⟨hb, hr0, hr1, hk⟩ := h.box2 gS g2 #[.int .i64 yc, .int .i64 yk, .int .i64 yh, .int .u64 yn] #[.int .i64 0, .int .i64 0, .int .i64 0, .int .u64 0] 45 45
  have HB := Lib.hid hb
  have HR0 := Lib.hid hr0
  have HR1 := Lib.hid hr1
  have HK0 := Lib.hid hk
  have HKl := Lib.hid h.klt
  have HBL := Lib.hid h.base_le
  have HC : Hid (I64 yc) := Lib.hid hy.ck
  have HH : Hid (I64 yh) := Lib.hid hy.h
  have HX := Lib.hid hx
  have HF := Lib.hid hf
  have HQ := Lib.hid q
  unfold Sy.v
  clear h hy hx hf q hb hr0 hr1 hk
  by_cases hf0 : f = 0
  · subst hf0
    have hw := HF.out
    rw [turn_yes (y := ⟨yc, yk, yh, yn⟩) HQ.out] at hw
    injection hw with e1 hw
    injection hw with e2 e3
    subst e1 e2 e3
    clear HF
    go_enter Tryz.func173, Tryz.ntmps173
    go_wp2_with fail
    refine (HB.out.mixP g2 HC.out HX.out HQ.out).mono ?_
    rintro e w1 ⟨rfl, hp, hk⟩
    have H1 := Lib.hid hp
    have h0 := (hk _ (.inr (.inl rfl))).trans HR0.out
    have h1 := (hk _ (.inr (.inr rfl))).trans HR1.out
    have HK1 := Lib.hid (show ∀ k, K k → w1.heap[k]? = w.heap[k]? from fun k q => (hk k (.inl q)).trans (HK0.out k q))
    have y0 := cell_of_row w1 _ 0 _ _ _ h0
    have y1 := cell_of_row w1 _ 1 _ _ _ h0
    have y2 := cell_of_row w1 _ 2 _ _ _ h0
    have y3 := cell_of_row w1 _ 3 _ _ _ h0
    simp at y0 y1 y2 y3
    have fy0 := frz_of_row 0 h0
    have fy1 := frz_of_row 1 h0
    have fy2 := frz_of_row 2 h0
    have fy3 := frz_of_row 3 h0
    have z0 := cell_of_row w1 _ 0 _ _ _ h1
    have z1 := cell_of_row w1 _ 1 _ _ _ h1
    have z2 := cell_of_row w1 _ 2 _ _ _ h1
    have z3 := cell_of_row w1 _ 3 _ _ _ h1
    simp at z0 z1 z2 z3
    have fz0 := frz_of_row 0 h1
    have fz1 := frz_of_row 1 h1
    have fz2 := frz_of_row 2 h1
    have fz3 := frz_of_row 3 h1
    clear hp hk h0 h1 HB
    go_wp2_with fail
    exact bodyPost_ret (v := .tuple #[.agg #[.int .i64 a, .int .i64 b, .int .i64 yh, .int .u64 0], .int .i64 0]) (by simp [results, Tryz.results173, go_sem, zeroY, Sy.v, z0, z1, z2, z3, y0, y1, y2, y3]) rfl
      ⟨rfl, ((H1.out).set4 gS g2 (.inr (.inr rfl)) (by have := HBL.out; omega) 0 _ _ _ _).less (fun k q => .inl q), fun k q => (set4_other _ _ _ _ _ _ _ _ (by have := HKl.out k q; omega)).trans (HK1.out k q)⟩
  · have hne : (f != 0) = true := by simpa using hf0
    have HE := Lib.hid hf0
    clear hf0
    have hw := HF.out
    rw [turn_no (y := ⟨yc, yk, yh, yn⟩) HQ.out HE.out] at hw
    injection hw with e1 hw
    injection hw with e2 e3
    subst e1 e2 e3
    clear HF
    go_enter Tryz.func173, Tryz.ntmps173
    go_wp2_with fail
    refine (HB.out.mixP g2 HC.out HX.out HQ.out).mono ?_
    rintro e w1 ⟨rfl, hp, hk⟩
    have H1 := Lib.hid hp
    have h0 := (hk _ (.inr (.inl rfl))).trans HR0.out
    have h1 := (hk _ (.inr (.inr rfl))).trans HR1.out
    have HK1 := Lib.hid (show ∀ k, K k → w1.heap[k]? = w.heap[k]? from fun k q => (hk k (.inl q)).trans (HK0.out k q))
    have y0 := cell_of_row w1 _ 0 _ _ _ h0
    have y1 := cell_of_row w1 _ 1 _ _ _ h0
    have y2 := cell_of_row w1 _ 2 _ _ _ h0
    have y3 := cell_of_row w1 _ 3 _ _ _ h0
    simp at y0 y1 y2 y3
    have fy0 := frz_of_row 0 h0
    have fy1 := frz_of_row 1 h0
    have fy2 := frz_of_row 2 h0
    have fy3 := frz_of_row 3 h0
    have z0 := cell_of_row w1 _ 0 _ _ _ h1
    have z1 := cell_of_row w1 _ 1 _ _ _ h1
    have z2 := cell_of_row w1 _ 2 _ _ _ h1
    have z3 := cell_of_row w1 _ 3 _ _ _ h1
    simp at z0 z1 z2 z3
    have fz0 := frz_of_row 0 h1
    have fz1 := frz_of_row 1 h1
    have fz2 := frz_of_row 2 h1
    have fz3 := frz_of_row 3 h1
    clear hp hk h0 h1 HB
    go_wp2_with fail
    exact bodyPost_ret (v := .tuple #[zeroY.v, .int .i64 f]) (by simp [results, Tryz.results173, go_sem, zeroY, Sy.v, z0, z1, z2, z3, y0, y1, y2, y3]) rfl
      ⟨rfl, ((H1.out).set4 gS g2 (.inr (.inr rfl)) (by have := HBL.out; omega) 0 _ _ _ _).less (fun k q => .inl q), fun k q => (set4_other _ _ _ _ _ _ _ _ (by have := HKl.out k q; omega)).trans (HK1.out k q)⟩

set_option maxHeartbeats 1000000 in
theorem Pair.splitP {L' : List Tm} {y : Sy} {a b e : Int} (g2 : Good base Q2) (h : Pair base (PSq base g most) Q2 L L2 K w0 w) (hy : y.Wf) (hf : splitF L most y = (a, b, e, L')) :
    Calls Tryz.prog 185 #[y.v, .pointer (some ⟨g, 0, none⟩)] w (Three (.int .i64 a) (.int .i64 b) (.int .i64 e) (Pair base (PSq base g most) Q2 L' L2 K w0) K w) := by
  have gS := PSq.good base g most
  obtain ⟨yc, yk, yh, yn⟩ := y
  obtain ⟨t, f, M, q⟩ : ∃ a f M, putF L most (textT ⟨#[]⟩) = (a, f, M) := ⟨_, _, _, rfl⟩
  obtain ⟨hb, hr, hk⟩ := h.box1 gS g2 #[.int .i64 yc, .int .i64 yk, .int .i64 yh, .int .u64 yn] 45
  have HB := Lib.hid hb
  have HR := Lib.hid hr
  have HK0 := Lib.hid hk
  have HC : Hid (I64 yc) := Lib.hid hy.ck
  have HT := Lib.hid (name_i64 h.facts.2.1 h.facts.2.2 q)
  have HF := Lib.hid hf
  have HQ := Lib.hid q
  unfold Sy.v
  clear h hy hf q hb hr hk
  by_cases hf0 : f = 0
  · subst hf0
    have hw := HF.out
    rw [split_yes (y := ⟨yc, yk, yh, yn⟩) HQ.out] at hw
    have HM : Hid (mixF M most yc t = (a, b, e, L')) := Lib.hid hw
    clear HF hw
    go_enter Tryz.func185, Tryz.ntmps185
    go_wp2_with fail
    refine (HB.out.textOfP g2 wf_emp HQ.out).mono ?_
    rintro e w1 ⟨rfl, hp, hk⟩
    have H1 := Lib.hid hp
    have h1 := (hk _ (.inr rfl)).trans HR.out
    have HK1 := Lib.hid (show ∀ k, K k → w1.heap[k]? = w.heap[k]? from fun k q => (hk k (.inl q)).trans (HK0.out k q))
    have y0 := cell_of_row w1 _ 0 _ _ _ h1
    simp at y0
    clear hp hk h1 HB
    go_wp2_with fail
    refine (H1.out.mixP g2 HC.out HT.out HM.out).mono ?_
    rintro e w2 ⟨rfl, hp, hk⟩
    have H2 := Lib.hid (hp.less (K' := K) (fun k q => .inl q))
    have HK2 := Lib.hid (show ∀ k, K k → w2.heap[k]? = w.heap[k]? from fun k q => (hk k (.inl q)).trans (HK1.out k q))
    clear hp hk H1 y0
    go_wp2_with fail
    go_ret3
    exact ⟨rfl, H2.out, HK2.out⟩
  · have hne : (f != 0) = true := by simpa using hf0
    have hw := HF.out
    rw [split_no (y := ⟨yc, yk, yh, yn⟩) HQ.out hf0] at hw
    injection hw with e1 hw
    injection hw with e2 hw
    injection hw with e3 e4
    subst e1 e2 e3 e4
    clear HF hf0
    go_enter Tryz.func185, Tryz.ntmps185
    go_wp2_with fail
    refine (HB.out.textOfP g2 wf_emp HQ.out).mono ?_
    rintro e w1 ⟨rfl, hp, hk⟩
    have H1 := Lib.hid (hp.less (K' := K) (fun k q => .inl q))
    have HK1 := Lib.hid (show ∀ k, K k → w1.heap[k]? = w.heap[k]? from fun k q => (hk k (.inl q)).trans (HK0.out k q))
    clear hp hk HB
    go_wp2_with fail
    go_ret3
    exact ⟨rfl, H1.out, HK1.out⟩

end
end Go.Proofs.YtgeonppckeiceaaGreatDoor
