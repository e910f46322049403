/- The step that opens. -/
import Derived.Test.YtlejejeflgnglaaSymK
namespace Go.Proofs.Ytlejejeflgnglaa
open Go.RowKit
set_option linter.unusedVariables false
set_option linter.unusedSimpArgs false
set_option maxRecDepth 20000
section
variable {base g : Nat} {most : Int} {Q2 : (Nat → Prop) → List Tm → World → Prop} {L L2 : List Tm} {K : Nat → Prop} {w0 w : World}

set_option maxHeartbeats 2000000 in
theorem Pair.openS {B : Nat} {y : Sy} {p s a e : Int} (g2 : Good base Q2) (h : Pair base (PSq base g most) Q2 L L2 K w0 w) (hB : K B) (hbB : base ≤ B) (hw : Wk B g y p s w) (hf : openF L y.K y.N y.H s = (a, e)) :
    Calls Try.prog 44 #[.pointer (some ⟨B, 0, none⟩)] w (Stp K B g e y a s (Pair base (PSq base g most) Q2 L L2 K w0) w) := by
  have gS := PSq.good base g most
  obtain ⟨yc, yk, yh, yn⟩ := y
  have hd : Below w.heap.size w w.drew := (Below.refl _ _).drew
  have HPd := Lib.hid (h.below gS g2 hd)
  have HKl := Lib.hid h.klt
  have hlt := lt_of_block hw
  have hw' : Wk B g ⟨yc, yk, yh, yn⟩ p s w.drew := hw.of (hd.block B hlt)
  have HW := Lib.hid hw'
  have HBK := Lib.hid hB
  have HBb := Lib.hid hbB
  have hS : w.drew.cell? ⟨B, 0, none⟩ = some (.pointer (some ⟨g, 0, none⟩)) ∧ w.drew.cell? ⟨B, 2, none⟩ = some (.int .i64 yk) ∧ w.drew.cell? ⟨B, 3, none⟩ = some (.int .i64 yh) ∧ w.drew.cell? ⟨B, 4, none⟩ = some (.int .u64 yn) ∧ w.drew.cell? ⟨B, 6, none⟩ = some (.int .i64 s) :=
    ⟨cell_of_row _ _ 0 _ _ _ hw', cell_of_row _ _ 2 _ _ _ hw', cell_of_row _ _ 3 _ _ _ hw', cell_of_row _ _ 4 _ _ _ hw', cell_of_row _ _ 6 _ _ _ hw'⟩
  have hS' := hS
  have HC : Hid (∀ W, Pair base (PSq base g most) Q2 L L2 K w0 W → Calls Try.prog 54 #[.pointer (some ⟨g, 0, none⟩), .int .i64 yk, .int .u64 yn, .int .i64 yh, .int .i64 s] W (Two (.int .i64 a) (.int .i64 e) (Pair base (PSq base g most) Q2 L L2 K w0) W)) :=
    Lib.hid (fun W h => h.aopenP g2 hf)
  clear h hw hw' hf hB hbB hd
  go_enter Try.func44, Try.ntmps44
  go_wp2
  go_region_held3 (fun w' => w'.cell? ⟨B, 0, none⟩ = some (.pointer (some ⟨g, 0, none⟩)) ∧ w'.cell? ⟨B, 2, none⟩ = some (.int .i64 yk) ∧ w'.cell? ⟨B, 3, none⟩ = some (.int .i64 yh) ∧ w'.cell? ⟨B, 4, none⟩ = some (.int .u64 yn) ∧ w'.cell? ⟨B, 6, none⟩ = some (.int .i64 s)) (first | assumption | go_keep | (refine ⟨?_, ?_, ?_, ?_, ?_⟩ <;> (rw [World.cell?_setCell_other _ _ _ _ (by simp)]; simp [hS2]))) ((go_at_call 54; refine (HC.out _ HPd.out).mono ?_; rintro e1 w2 ⟨rfl, hp2, hk2⟩; have hw2 := HW.out.of (hk2.block B (by exact hlt)); have hS2 : w2.cell? ⟨B, 0, none⟩ = some (.pointer (some ⟨g, 0, none⟩)) ∧ w2.cell? ⟨B, 2, none⟩ = some (.int .i64 yk) ∧ w2.cell? ⟨B, 3, none⟩ = some (.int .i64 yh) ∧ w2.cell? ⟨B, 4, none⟩ = some (.int .u64 yn) ∧ w2.cell? ⟨B, 6, none⟩ = some (.int .i64 s) := ⟨cell_of_row _ _ 0 _ _ _ hw2, cell_of_row _ _ 2 _ _ _ hw2, cell_of_row _ _ 3 _ _ _ hw2, cell_of_row _ _ 4 _ _ _ hw2, cell_of_row _ _ 6 _ _ _ hw2⟩; have h62 : w2.cell? ⟨B, 5, none⟩ = some (.int .i64 p) := cell_of_row _ _ 5 _ _ _ hw2; have hfz2 := frz_of_row (w := w2) 5 hw2; have HP2 := Lib.hid hp2; have HK2 := Lib.hid hk2; have HW2 := Lib.hid hw2; clear hp2 hk2 hw2))
  go_wp2
  go_ret
  have r := row_set 5 (.int .i64 a) HW2.out
  simp at r
  exact ⟨rfl, HP2.out.setAt gS g2 HBK.out HBb.out 5 _, r, fun k q hk => (heap_setCell_other _ _ _ _ (by exact hk)).trans (HK2.out.block k (HKl.out k q))⟩
end
end Go.Proofs.Ytlejejeflgnglaa
