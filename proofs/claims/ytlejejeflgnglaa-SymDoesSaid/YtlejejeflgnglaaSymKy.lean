/- The step that says. -/
import Derived.Test.YtlejejeflgnglaaSymK
import Derived.Test.YtlejejeflgnglaaSymC
import Derived.Deep.RegionWith
namespace Go.Proofs.Ytlejejeflgnglaa
open Go.RowKit
set_option linter.unusedVariables false
set_option linter.unusedSimpArgs false
set_option maxRecDepth 20000
section
variable {base g : Nat} {most : Int} {Q2 : (Nat → Prop) → List Tm → World → Prop} {L L2 : List Tm} {K : Nat → Prop} {w0 w : World}

set_option maxHeartbeats 2000000 in
theorem Pair.sayS {L' : List Tm} {B : Nat} {y y' : Sy} {p s e : Int} (g2 : Good base Q2) (h : Pair base (PSq base g most) Q2 L L2 K w0 w) (hB : K B) (hbB : base ≤ B) (hw : Wk B g y p s w) (hy : y.Wf) (hs : I64 s) (hf : sayF L most y s = (y', e, L')) :
    Calls Try.prog 42 #[.pointer (some ⟨B, 0, none⟩)] w (Stp K B g e y' p s (Pair base (PSq base g most) Q2 L' L2 K w0) w) := by
  have gS := PSq.good base g most
  have HC0 := Lib.hid (fun W (h : Pair base (PSq base g most) Q2 L L2 K w0 W) => h.sayP g2 hy hs hf)
  obtain ⟨yc, yk, yh, yn⟩ := y
  obtain ⟨zc, zk, zh, zn⟩ := y'
  have hd : Below w.heap.size w w.drew := (Below.refl _ _).drew
  have HPd := Lib.hid (h.below gS g2 hd)
  have HKl := Lib.hid h.klt
  have hlt := lt_of_block hw
  have hw' : Wk B g ⟨yc, yk, yh, yn⟩ p s w.drew := hw.of (hd.block B hlt)
  have HW := Lib.hid hw'
  have HBK := Lib.hid hB
  have HBb := Lib.hid hbB
  have hS : w.drew.cell? ⟨B, 0, none⟩ = some (.pointer (some ⟨g, 0, none⟩)) ∧ w.drew.cell? ⟨B, 6, none⟩ = some (.int .i64 s) :=
    ⟨cell_of_row _ _ 0 _ _ _ hw', cell_of_row _ _ 6 _ _ _ hw'⟩
  have hS' := hS
  have l1 : w.drew.cell? ⟨B, 1, none⟩ = some (.int .i64 yc) := cell_of_row _ _ 1 _ _ _ hw'
  have l2 : w.drew.cell? ⟨B, 2, none⟩ = some (.int .i64 yk) := cell_of_row _ _ 2 _ _ _ hw'
  have l3 : w.drew.cell? ⟨B, 3, none⟩ = some (.int .i64 yh) := cell_of_row _ _ 3 _ _ _ hw'
  have l4 : w.drew.cell? ⟨B, 4, none⟩ = some (.int .u64 yn) := cell_of_row _ _ 4 _ _ _ hw'
  have HC : Hid (∀ W, Pair base (PSq base g most) Q2 L L2 K w0 W → Calls Try.prog 14 #[.agg #[.int .i64 yc, .int .i64 yk, .int .i64 yh, .int .u64 yn], .pointer (some ⟨g, 0, none⟩), .int .i64 s] W (TwoK (.agg #[.int .i64 zc, .int .i64 zk, .int .i64 zh, .int .u64 zn]) (.int .i64 e) (Pair base (PSq base g most) Q2 L' L2 K w0) K W)) := Lib.hid (fun W h => HC0.out W h)
  clear h hw hw' hy hs hf hB hbB hd HC0
  go_enter Try.func42, Try.ntmps42
  go_wp2
  go_region_with (go_at_call 14; refine (HC.out _ HPd.out).mono ?_; rintro e1 w2 ⟨rfl, hp2, hk2⟩; have hw2 := HW.out.of (hk2 B HBK.out); have hS2 : w2.cell? ⟨B, 0, none⟩ = some (.pointer (some ⟨g, 0, none⟩)) ∧ w2.cell? ⟨B, 6, none⟩ = some (.int .i64 s) := ⟨cell_of_row _ _ 0 _ _ _ hw2, cell_of_row _ _ 6 _ _ _ hw2⟩; have h1 : w2.cell? ⟨B, 1, none⟩ = some (.int .i64 yc) := cell_of_row _ _ 1 _ _ _ hw2; have h2 : w2.cell? ⟨B, 2, none⟩ = some (.int .i64 yk) := cell_of_row _ _ 2 _ _ _ hw2; have h3 : w2.cell? ⟨B, 3, none⟩ = some (.int .i64 yh) := cell_of_row _ _ 3 _ _ _ hw2; have h4 : w2.cell? ⟨B, 4, none⟩ = some (.int .u64 yn) := cell_of_row _ _ 4 _ _ _ hw2; have f1 := frz_of_row (w := w2) 1 hw2; have f2 := frz_of_row (w := w2) 2 hw2; have f3 := frz_of_row (w := w2) 3 hw2; have f4 := frz_of_row (w := w2) 4 hw2; have HP2 := Lib.hid hp2; have HK2 := Lib.hid hk2; have HW2 := Lib.hid hw2; clear hp2 hk2 hw2)
  all_goals
    go_wp2
    go_ret
    have r := row_set 4 (.int .u64 zn) (row_set 3 (.int .i64 zh) (row_set 2 (.int .i64 zk) (row_set 1 (.int .i64 zc) HW2.out)))
    simp at r
    exact ⟨rfl, HP2.out.set4 gS g2 HBK.out HBb.out 1 _ _ _ _, r, fun k q hk => (set4_other w2 B 1 k _ _ _ _ hk).trans (HK2.out k q)⟩
end
end Go.Proofs.Ytlejejeflgnglaa
