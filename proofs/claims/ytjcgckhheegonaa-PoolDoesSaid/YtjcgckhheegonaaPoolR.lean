/- The program's pool: why a part can't be held (tools/stage13/refuse.py). -/
import Derived.Test.YtjcgckhheegonaaPoolQ
import Derived.Deep.CutRange
namespace Go.Proofs.Ytjcgckhheegonaa
open Go.RowKit
set_option linter.unusedVariables false
set_option linter.unusedSimpArgs false
set_option maxRecDepth 20000
theorem below_drew {B : Nat} {w u : World} (h : Below B w u) (n : Nat) : Below B w (u.drewN n) := ⟨h.os, h.tape, h.output, h.size, h.block⟩
theorem below_drew1 {B : Nat} {w u : World} (h : Below B w u) : Below B w u.drew := ⟨h.os, h.tape, h.output, h.size, h.block⟩
set_option maxHeartbeats 4000000 in
theorem refusal_3 {w : World} {p bh bp : Nat} {s b : Int} {l : List Ms} {ps : List (Ms × Nat)} (h : PAt w p bh bp s b l ps) (hB : heldM l ≤ 65536) (id ix ct : Int) (sz : ByteArray) (hsz : sz.size ≤ 1000000) (c0 s0 : Int) (mv : Option Nat) (u : ByteArray) (cm : Bool) (nl hh : Int) (hnl : (l.length : Int) = nl) (hhh : (heldM l : Int) = hh)
    (h1 : ∀ W, Below w.heap.size w W → (Instr.lookup 58 (.map (some bh)) (.int .u64 id) true).run Try.prog W = .ok (.tuple #[.agg #[.int .i64 c0, .int .u64 s0], .bool true]) W)
    (h2 : ∀ W, Below w.heap.size w W → (Instr.lookup 59 (.map (some bp)) (.int .u64 id) false).run Try.prog W = .ok (.map mv) W)
    (h3 : ∀ W, Below w.heap.size w W → (Instr.lookup 77 (.map mv) (.int .i64 ix) true).run Try.prog W = .ok (.tuple #[.string u, .bool cm]) W)
    (hne : ¬ c0 = ct) :
    Calls Try.prog 27 #[.pointer (some ⟨p, 0, none⟩), .agg #[.int .u64 id, .int .i64 ix, .int .i64 ct, .string sz]] w fun e w' => e = .returned (.int .i64 3) ∧ Below w.heap.size w w' := by
  have HH := Lib.hid h
  have H1 := Lib.hid h1
  have H2 := Lib.hid h2
  have H3 := Lib.hid h3
  have HLB : Hid (heldM l ≤ 65536) := Lib.hid hB
  have HNL := Lib.hid hnl
  have HHH := Lib.hid hhh
  have hwr : IntKind.i64.wrap (hh + (sz.size : Int)) = hh + (sz.size : Int) := i64_mil (by omega) (by omega)
  obtain ⟨u1, hu1⟩ : ∃ u1, u1 = w.alloc (.cells #[.int .u64 id, .int .i64 ix, .int .i64 ct, .string sz] 35) := ⟨_, rfl⟩
  obtain ⟨B, hB0⟩ : ∃ B, B = w.heap.size := ⟨_, rfl⟩
  have hb1 : Below w.heap.size w u1 := by rw [hu1]; exact below_alloc w _
  have hbx : u1.heap[B]? = some (.cells #[.int .u64 id, .int .i64 ix, .int .i64 ct, .string sz] 35 (0, 0)) := by rw [hu1, hB0]; exact heap_alloc_new w _
  have HBX := Lib.hid hbx
  have HB1 := Lib.hid hb1
  have HU := Lib.hid hu1
  have HBE := Lib.hid hB0
  clear h h1 h2 h3 hb1 hbx hB hsz hnl hhh
  go_enter Try.func27, Try.ntmps27
  go_upto_region 1 with fail
  rw [← hu1, ← hB0]
  clear hu1 hB0
  go_cut [5, 6] from 11 to 20 (fun x5 x6 wx => ∃ g, x5 = .pointer (some ⟨g, 0, none⟩) ∧ x6 = .bool true ∧ wx.heap[g]? = some (.cells #[.int .i64 c0, .int .u64 s0] 66 (0, 0)) ∧ Below u1.heap.size u1 wx)
  case first =>
    obtain ⟨_, _, k2, k3, _, _⟩ := (HH.out.below HB1.out).cells
    have b0 : u1.cell? ⟨B, 0, none⟩ = some (.int .u64 id) := by rw [cell_atA 0 HBX.out]; rfl
    have b0' : ∀ o, (u1.alloc o).cell? ⟨B, 0, none⟩ = some (.int .u64 id) := fun o => ((below_alloc u1 o).cell (block_lt_of_cell b0)).trans b0
    have k2' : ∀ o, (u1.alloc o).cell? ⟨p, 2, none⟩ = some (.map (some bh)) := fun o => ((below_alloc u1 o).cell (block_lt_of_cell k2)).trans k2
    have q1 : (Instr.lookup 58 (.map (some bh)) (.int .u64 id) true).run Try.prog u1.drew = _ := H1.out _ (below_drew1 HB1.out)
    have q2 : ∀ o, (Instr.lookup 58 (.map (some bh)) (.int .u64 id) true).run Try.prog (u1.alloc o).drew = _ := fun o => H1.out _ (below_drew1 (HB1.out.trans ((below_alloc u1 o).mono HB1.out.size)))
    go_region
    go_wp2_with fail
    go_meet
    exact ⟨u1.heap.size, rfl, rfl, heap_alloc_new u1 _, below_drew1 (below_alloc u1 _)⟩
  case rest =>
    obtain ⟨g, rfl, rfl, hg, hbc⟩ := hcut
    have HWC : Hid (Below w.heap.size w wc) := Lib.hid (HB1.out.trans (hbc.mono HB1.out.size))
    have HG := Lib.hid hg
    have HBC := Lib.hid ((hbc.block B (blk_lt HBX.out)).trans HBX.out)
    clear hg hbc
    obtain ⟨_, _, k2, k3, _, _⟩ := (HH.out.below HWC.out).cells
    have b0 : wc.cell? ⟨B, 0, none⟩ = some (.int .u64 id) := by rw [cell_atA 0 HBC.out]; rfl
    have b1 : wc.cell? ⟨B, 1, none⟩ = some (.int .i64 ix) := by rw [cell_atA 1 HBC.out]; rfl
    have q2 : ∀ n, (Instr.lookup 59 (.map (some bp)) (.int .u64 id) false).run Try.prog (wc.drewN n) = _ := fun n => H2.out _ (below_drew HWC.out n)
    have q3 : ∀ n, (Instr.lookup 77 (.map mv) (.int .i64 ix) true).run Try.prog (wc.drewN n) = _ := fun n => H3.out _ (below_drew HWC.out n)
    go_wp2_with fail
    go_quiet (fail)
    clear q2 q3
    have HW4 : Hid (Below w.heap.size w (wc.drewN nq)) := Lib.hid (below_drew HWC.out nq)
    have HG4 : Hid ((wc.drewN nq).heap[g]? = some (.cells #[.int .i64 c0, .int .u64 s0] 66 (0, 0))) := Lib.hid HG.out
    have HB4 : Hid ((wc.drewN nq).heap[B]? = some (.cells #[.int .u64 id, .int .i64 ix, .int .i64 ct, .string sz] 35 (0, 0))) := Lib.hid HBC.out
    clear k2 k3 b0 b1
    generalize wc.drewN nq = w4 at HW4 HG4 HB4 ⊢
    go_wp2_with (go_at_call 17; refine (held_at (HH.out.below HW4.out) HLB.out).mono ?_; rintro e w5 ⟨rfl, hb5⟩; rw [HNL.out, HHH.out]; obtain ⟨k0, k1, _, _, _, _⟩ := (HH.out.below (HW4.out.trans (hb5.mono HW4.out.size))).cells; have g0 : w5.cell? ⟨g, 0, none⟩ = some (.int .i64 c0) := (by rw [cell_atA 0 ((hb5.block g (blk_lt HG4.out)).trans HG4.out)]; rfl); have b2 : w5.cell? ⟨B, 2, none⟩ = some (.int .i64 ct) := (by rw [cell_atA 2 ((hb5.block B (blk_lt HB4.out)).trans HB4.out)]; rfl); have b3 : w5.cell? ⟨B, 3, none⟩ = some (.string sz) := (by rw [cell_atA 3 ((hb5.block B (blk_lt HB4.out)).trans HB4.out)]; rfl); have HW5 := Lib.hid (HW4.out.trans (hb5.mono HW4.out.size)); clear hb5)
    go_ret
    exact ⟨rfl, HW5.out⟩
set_option maxHeartbeats 4000000 in
theorem refusal_6 {w : World} {p bh bp : Nat} {s b : Int} {l : List Ms} {ps : List (Ms × Nat)} (h : PAt w p bh bp s b l ps) (hB : heldM l ≤ 65536) (id ix ct : Int) (sz : ByteArray) (hsz : sz.size ≤ 1000000) (s0 : Int) (mv : Option Nat) (u : ByteArray) (cm : Bool) (nl hh : Int) (hnl : (l.length : Int) = nl) (hhh : (heldM l : Int) = hh)
    (h1 : ∀ W, Below w.heap.size w W → (Instr.lookup 58 (.map (some bh)) (.int .u64 id) true).run Try.prog W = .ok (.tuple #[.agg #[.int .i64 ct, .int .u64 s0], .bool true]) W)
    (h2 : ∀ W, Below w.heap.size w W → (Instr.lookup 59 (.map (some bp)) (.int .u64 id) false).run Try.prog W = .ok (.map mv) W)
    (h3 : ∀ W, Below w.heap.size w W → (Instr.lookup 77 (.map mv) (.int .i64 ix) true).run Try.prog W = .ok (.tuple #[.string u, .bool cm]) W)
    (hcm : cm = true) :
    Calls Try.prog 27 #[.pointer (some ⟨p, 0, none⟩), .agg #[.int .u64 id, .int .i64 ix, .int .i64 ct, .string sz]] w fun e w' => e = .returned (.int .i64 6) ∧ Below w.heap.size w w' := by
  subst hcm
  have HH := Lib.hid h
  have H1 := Lib.hid h1
  have H2 := Lib.hid h2
  have H3 := Lib.hid h3
  have HLB : Hid (heldM l ≤ 65536) := Lib.hid hB
  have HNL := Lib.hid hnl
  have HHH := Lib.hid hhh
  have hwr : IntKind.i64.wrap (hh + (sz.size : Int)) = hh + (sz.size : Int) := i64_mil (by omega) (by omega)
  obtain ⟨u1, hu1⟩ : ∃ u1, u1 = w.alloc (.cells #[.int .u64 id, .int .i64 ix, .int .i64 ct, .string sz] 35) := ⟨_, rfl⟩
  obtain ⟨B, hB0⟩ : ∃ B, B = w.heap.size := ⟨_, rfl⟩
  have hb1 : Below w.heap.size w u1 := by rw [hu1]; exact below_alloc w _
  have hbx : u1.heap[B]? = some (.cells #[.int .u64 id, .int .i64 ix, .int .i64 ct, .string sz] 35 (0, 0)) := by rw [hu1, hB0]; exact heap_alloc_new w _
  have HBX := Lib.hid hbx
  have HB1 := Lib.hid hb1
  have HU := Lib.hid hu1
  have HBE := Lib.hid hB0
  clear h h1 h2 h3 hb1 hbx hB hsz hnl hhh
  go_enter Try.func27, Try.ntmps27
  go_upto_region 1 with fail
  rw [← hu1, ← hB0]
  clear hu1 hB0
  go_cut [5, 6] from 11 to 20 (fun x5 x6 wx => ∃ g, x5 = .pointer (some ⟨g, 0, none⟩) ∧ x6 = .bool true ∧ wx.heap[g]? = some (.cells #[.int .i64 ct, .int .u64 s0] 66 (0, 0)) ∧ Below u1.heap.size u1 wx)
  case first =>
    obtain ⟨_, _, k2, k3, _, _⟩ := (HH.out.below HB1.out).cells
    have b0 : u1.cell? ⟨B, 0, none⟩ = some (.int .u64 id) := by rw [cell_atA 0 HBX.out]; rfl
    have b0' : ∀ o, (u1.alloc o).cell? ⟨B, 0, none⟩ = some (.int .u64 id) := fun o => ((below_alloc u1 o).cell (block_lt_of_cell b0)).trans b0
    have k2' : ∀ o, (u1.alloc o).cell? ⟨p, 2, none⟩ = some (.map (some bh)) := fun o => ((below_alloc u1 o).cell (block_lt_of_cell k2)).trans k2
    have q1 : (Instr.lookup 58 (.map (some bh)) (.int .u64 id) true).run Try.prog u1.drew = _ := H1.out _ (below_drew1 HB1.out)
    have q2 : ∀ o, (Instr.lookup 58 (.map (some bh)) (.int .u64 id) true).run Try.prog (u1.alloc o).drew = _ := fun o => H1.out _ (below_drew1 (HB1.out.trans ((below_alloc u1 o).mono HB1.out.size)))
    go_region
    go_wp2_with fail
    go_meet
    exact ⟨u1.heap.size, rfl, rfl, heap_alloc_new u1 _, below_drew1 (below_alloc u1 _)⟩
  case rest =>
    obtain ⟨g, rfl, rfl, hg, hbc⟩ := hcut
    have HWC : Hid (Below w.heap.size w wc) := Lib.hid (HB1.out.trans (hbc.mono HB1.out.size))
    have HG := Lib.hid hg
    have HBC := Lib.hid ((hbc.block B (blk_lt HBX.out)).trans HBX.out)
    clear hg hbc
    obtain ⟨_, _, k2, k3, _, _⟩ := (HH.out.below HWC.out).cells
    have b0 : wc.cell? ⟨B, 0, none⟩ = some (.int .u64 id) := by rw [cell_atA 0 HBC.out]; rfl
    have b1 : wc.cell? ⟨B, 1, none⟩ = some (.int .i64 ix) := by rw [cell_atA 1 HBC.out]; rfl
    have q2 : ∀ n, (Instr.lookup 59 (.map (some bp)) (.int .u64 id) false).run Try.prog (wc.drewN n) = _ := fun n => H2.out _ (below_drew HWC.out n)
    have q3 : ∀ n, (Instr.lookup 77 (.map mv) (.int .i64 ix) true).run Try.prog (wc.drewN n) = _ := fun n => H3.out _ (below_drew HWC.out n)
    go_wp2_with fail
    go_quiet (fail)
    clear q2 q3
    have HW4 : Hid (Below w.heap.size w (wc.drewN nq)) := Lib.hid (below_drew HWC.out nq)
    have HG4 : Hid ((wc.drewN nq).heap[g]? = some (.cells #[.int .i64 ct, .int .u64 s0] 66 (0, 0))) := Lib.hid HG.out
    have HB4 : Hid ((wc.drewN nq).heap[B]? = some (.cells #[.int .u64 id, .int .i64 ix, .int .i64 ct, .string sz] 35 (0, 0))) := Lib.hid HBC.out
    clear k2 k3 b0 b1
    generalize wc.drewN nq = w4 at HW4 HG4 HB4 ⊢
    go_wp2_with (go_at_call 17; refine (held_at (HH.out.below HW4.out) HLB.out).mono ?_; rintro e w5 ⟨rfl, hb5⟩; rw [HNL.out, HHH.out]; obtain ⟨k0, k1, _, _, _, _⟩ := (HH.out.below (HW4.out.trans (hb5.mono HW4.out.size))).cells; have g0 : w5.cell? ⟨g, 0, none⟩ = some (.int .i64 ct) := (by rw [cell_atA 0 ((hb5.block g (blk_lt HG4.out)).trans HG4.out)]; rfl); have b2 : w5.cell? ⟨B, 2, none⟩ = some (.int .i64 ct) := (by rw [cell_atA 2 ((hb5.block B (blk_lt HB4.out)).trans HB4.out)]; rfl); have b3 : w5.cell? ⟨B, 3, none⟩ = some (.string sz) := (by rw [cell_atA 3 ((hb5.block B (blk_lt HB4.out)).trans HB4.out)]; rfl); have HW5 := Lib.hid (HW4.out.trans (hb5.mono HW4.out.size)); clear hb5)
    go_ret
    exact ⟨rfl, HW5.out⟩
set_option maxHeartbeats 4000000 in
theorem refusal_n8 {w : World} {p bh bp : Nat} {s b : Int} {l : List Ms} {ps : List (Ms × Nat)} (h : PAt w p bh bp s b l ps) (hB : heldM l ≤ 65536) (id ix ct : Int) (sz : ByteArray) (hsz : sz.size ≤ 1000000) (c0 s0 : Int) (mv : Option Nat) (u : ByteArray) (cm : Bool) (nl hh : Int) (hnl : (l.length : Int) = nl) (hhh : (heldM l : Int) = hh)
    (h1 : ∀ W, Below w.heap.size w W → (Instr.lookup 58 (.map (some bh)) (.int .u64 id) true).run Try.prog W = .ok (.tuple #[.agg #[.int .i64 c0, .int .u64 s0], .bool false]) W)
    (h2 : ∀ W, Below w.heap.size w W → (Instr.lookup 59 (.map (some bp)) (.int .u64 id) false).run Try.prog W = .ok (.map mv) W)
    (h3 : ∀ W, Below w.heap.size w W → (Instr.lookup 77 (.map mv) (.int .i64 ix) true).run Try.prog W = .ok (.tuple #[.string u, .bool cm]) W)
    (hcm : cm = false) (hs : nl = s) :
    Calls Try.prog 27 #[.pointer (some ⟨p, 0, none⟩), .agg #[.int .u64 id, .int .i64 ix, .int .i64 ct, .string sz]] w fun e w' => e = .returned (.int .i64 8) ∧ Below w.heap.size w w' := by
  subst hcm
  subst hs
  have HH := Lib.hid h
  have H1 := Lib.hid h1
  have H2 := Lib.hid h2
  have H3 := Lib.hid h3
  have HLB : Hid (heldM l ≤ 65536) := Lib.hid hB
  have HNL := Lib.hid hnl
  have HHH := Lib.hid hhh
  have hwr : IntKind.i64.wrap (hh + (sz.size : Int)) = hh + (sz.size : Int) := i64_mil (by omega) (by omega)
  obtain ⟨u1, hu1⟩ : ∃ u1, u1 = w.alloc (.cells #[.int .u64 id, .int .i64 ix, .int .i64 ct, .string sz] 35) := ⟨_, rfl⟩
  obtain ⟨B, hB0⟩ : ∃ B, B = w.heap.size := ⟨_, rfl⟩
  have hb1 : Below w.heap.size w u1 := by rw [hu1]; exact below_alloc w _
  have hbx : u1.heap[B]? = some (.cells #[.int .u64 id, .int .i64 ix, .int .i64 ct, .string sz] 35 (0, 0)) := by rw [hu1, hB0]; exact heap_alloc_new w _
  have HBX := Lib.hid hbx
  have HB1 := Lib.hid hb1
  have HU := Lib.hid hu1
  have HBE := Lib.hid hB0
  clear h h1 h2 h3 hb1 hbx hB hsz hnl hhh
  go_enter Try.func27, Try.ntmps27
  go_upto_region 1 with fail
  rw [← hu1, ← hB0]
  clear hu1 hB0
  go_cut [5, 6] from 11 to 20 (fun x5 x6 wx => ∃ g, x5 = .pointer (some ⟨g, 0, none⟩) ∧ x6 = .bool false ∧ wx.heap[g]? = some (.cells #[.int .i64 c0, .int .u64 s0] 66 (0, 0)) ∧ Below u1.heap.size u1 wx)
  case first =>
    obtain ⟨_, _, k2, k3, _, _⟩ := (HH.out.below HB1.out).cells
    have b0 : u1.cell? ⟨B, 0, none⟩ = some (.int .u64 id) := by rw [cell_atA 0 HBX.out]; rfl
    have b0' : ∀ o, (u1.alloc o).cell? ⟨B, 0, none⟩ = some (.int .u64 id) := fun o => ((below_alloc u1 o).cell (block_lt_of_cell b0)).trans b0
    have k2' : ∀ o, (u1.alloc o).cell? ⟨p, 2, none⟩ = some (.map (some bh)) := fun o => ((below_alloc u1 o).cell (block_lt_of_cell k2)).trans k2
    have q1 : (Instr.lookup 58 (.map (some bh)) (.int .u64 id) true).run Try.prog u1.drew = _ := H1.out _ (below_drew1 HB1.out)
    have q2 : ∀ o, (Instr.lookup 58 (.map (some bh)) (.int .u64 id) true).run Try.prog (u1.alloc o).drew = _ := fun o => H1.out _ (below_drew1 (HB1.out.trans ((below_alloc u1 o).mono HB1.out.size)))
    go_region
    go_wp2_with fail
    go_meet
    exact ⟨u1.heap.size, rfl, rfl, heap_alloc_new u1 _, below_drew1 (below_alloc u1 _)⟩
  case rest =>
    obtain ⟨g, rfl, rfl, hg, hbc⟩ := hcut
    have HWC : Hid (Below w.heap.size w wc) := Lib.hid (HB1.out.trans (hbc.mono HB1.out.size))
    have HG := Lib.hid hg
    have HBC := Lib.hid ((hbc.block B (blk_lt HBX.out)).trans HBX.out)
    clear hg hbc
    obtain ⟨_, _, k2, k3, _, _⟩ := (HH.out.below HWC.out).cells
    have b0 : wc.cell? ⟨B, 0, none⟩ = some (.int .u64 id) := by rw [cell_atA 0 HBC.out]; rfl
    have b1 : wc.cell? ⟨B, 1, none⟩ = some (.int .i64 ix) := by rw [cell_atA 1 HBC.out]; rfl
    have q2 : ∀ n, (Instr.lookup 59 (.map (some bp)) (.int .u64 id) false).run Try.prog (wc.drewN n) = _ := fun n => H2.out _ (below_drew HWC.out n)
    have q3 : ∀ n, (Instr.lookup 77 (.map mv) (.int .i64 ix) true).run Try.prog (wc.drewN n) = _ := fun n => H3.out _ (below_drew HWC.out n)
    go_wp2_with fail
    go_quiet (fail)
    clear q2 q3
    have HW4 : Hid (Below w.heap.size w (wc.drewN nq)) := Lib.hid (below_drew HWC.out nq)
    have HG4 : Hid ((wc.drewN nq).heap[g]? = some (.cells #[.int .i64 c0, .int .u64 s0] 66 (0, 0))) := Lib.hid HG.out
    have HB4 : Hid ((wc.drewN nq).heap[B]? = some (.cells #[.int .u64 id, .int .i64 ix, .int .i64 ct, .string sz] 35 (0, 0))) := Lib.hid HBC.out
    clear k2 k3 b0 b1
    generalize wc.drewN nq = w4 at HW4 HG4 HB4 ⊢
    go_wp2_with (go_at_call 17; refine (held_at (HH.out.below HW4.out) HLB.out).mono ?_; rintro e w5 ⟨rfl, hb5⟩; rw [HNL.out, HHH.out]; obtain ⟨k0, k1, _, _, _, _⟩ := (HH.out.below (HW4.out.trans (hb5.mono HW4.out.size))).cells; have g0 : w5.cell? ⟨g, 0, none⟩ = some (.int .i64 c0) := (by rw [cell_atA 0 ((hb5.block g (blk_lt HG4.out)).trans HG4.out)]; rfl); have b2 : w5.cell? ⟨B, 2, none⟩ = some (.int .i64 ct) := (by rw [cell_atA 2 ((hb5.block B (blk_lt HB4.out)).trans HB4.out)]; rfl); have b3 : w5.cell? ⟨B, 3, none⟩ = some (.string sz) := (by rw [cell_atA 3 ((hb5.block B (blk_lt HB4.out)).trans HB4.out)]; rfl); have HW5 := Lib.hid (HW4.out.trans (hb5.mono HW4.out.size)); clear hb5)
    go_ret
    exact ⟨rfl, HW5.out⟩
set_option maxHeartbeats 4000000 in
theorem refusal_n8b {w : World} {p bh bp : Nat} {s b : Int} {l : List Ms} {ps : List (Ms × Nat)} (h : PAt w p bh bp s b l ps) (hB : heldM l ≤ 65536) (id ix ct : Int) (sz : ByteArray) (hsz : sz.size ≤ 1000000) (c0 s0 : Int) (mv : Option Nat) (u : ByteArray) (cm : Bool) (nl hh : Int) (hnl : (l.length : Int) = nl) (hhh : (heldM l : Int) = hh)
    (h1 : ∀ W, Below w.heap.size w W → (Instr.lookup 58 (.map (some bh)) (.int .u64 id) true).run Try.prog W = .ok (.tuple #[.agg #[.int .i64 c0, .int .u64 s0], .bool false]) W)
    (h2 : ∀ W, Below w.heap.size w W → (Instr.lookup 59 (.map (some bp)) (.int .u64 id) false).run Try.prog W = .ok (.map mv) W)
    (h3 : ∀ W, Below w.heap.size w W → (Instr.lookup 77 (.map mv) (.int .i64 ix) true).run Try.prog W = .ok (.tuple #[.string u, .bool cm]) W)
    (hcm : cm = false) (hs : ¬ nl = s) (hb : b < hh + (sz.size : Int)) :
    Calls Try.prog 27 #[.pointer (some ⟨p, 0, none⟩), .agg #[.int .u64 id, .int .i64 ix, .int .i64 ct, .string sz]] w fun e w' => e = .returned (.int .i64 8) ∧ Below w.heap.size w w' := by
  subst hcm
  have HH := Lib.hid h
  have H1 := Lib.hid h1
  have H2 := Lib.hid h2
  have H3 := Lib.hid h3
  have HLB : Hid (heldM l ≤ 65536) := Lib.hid hB
  have HNL := Lib.hid hnl
  have HHH := Lib.hid hhh
  have hwr : IntKind.i64.wrap (hh + (sz.size : Int)) = hh + (sz.size : Int) := i64_mil (by omega) (by omega)
  obtain ⟨u1, hu1⟩ : ∃ u1, u1 = w.alloc (.cells #[.int .u64 id, .int .i64 ix, .int .i64 ct, .string sz] 35) := ⟨_, rfl⟩
  obtain ⟨B, hB0⟩ : ∃ B, B = w.heap.size := ⟨_, rfl⟩
  have hb1 : Below w.heap.size w u1 := by rw [hu1]; exact below_alloc w _
  have hbx : u1.heap[B]? = some (.cells #[.int .u64 id, .int .i64 ix, .int .i64 ct, .string sz] 35 (0, 0)) := by rw [hu1, hB0]; exact heap_alloc_new w _
  have HBX := Lib.hid hbx
  have HB1 := Lib.hid hb1
  have HU := Lib.hid hu1
  have HBE := Lib.hid hB0
  clear h h1 h2 h3 hb1 hbx hB hsz hnl hhh
  go_enter Try.func27, Try.ntmps27
  go_upto_region 1 with fail
  rw [← hu1, ← hB0]
  clear hu1 hB0
  go_cut [5, 6] from 11 to 20 (fun x5 x6 wx => ∃ g, x5 = .pointer (some ⟨g, 0, none⟩) ∧ x6 = .bool false ∧ wx.heap[g]? = some (.cells #[.int .i64 c0, .int .u64 s0] 66 (0, 0)) ∧ Below u1.heap.size u1 wx)
  case first =>
    obtain ⟨_, _, k2, k3, _, _⟩ := (HH.out.below HB1.out).cells
    have b0 : u1.cell? ⟨B, 0, none⟩ = some (.int .u64 id) := by rw [cell_atA 0 HBX.out]; rfl
    have b0' : ∀ o, (u1.alloc o).cell? ⟨B, 0, none⟩ = some (.int .u64 id) := fun o => ((below_alloc u1 o).cell (block_lt_of_cell b0)).trans b0
    have k2' : ∀ o, (u1.alloc o).cell? ⟨p, 2, none⟩ = some (.map (some bh)) := fun o => ((below_alloc u1 o).cell (block_lt_of_cell k2)).trans k2
    have q1 : (Instr.lookup 58 (.map (some bh)) (.int .u64 id) true).run Try.prog u1.drew = _ := H1.out _ (below_drew1 HB1.out)
    have q2 : ∀ o, (Instr.lookup 58 (.map (some bh)) (.int .u64 id) true).run Try.prog (u1.alloc o).drew = _ := fun o => H1.out _ (below_drew1 (HB1.out.trans ((below_alloc u1 o).mono HB1.out.size)))
    go_region
    go_wp2_with fail
    go_meet
    exact ⟨u1.heap.size, rfl, rfl, heap_alloc_new u1 _, below_drew1 (below_alloc u1 _)⟩
  case rest =>
    obtain ⟨g, rfl, rfl, hg, hbc⟩ := hcut
    have HWC : Hid (Below w.heap.size w wc) := Lib.hid (HB1.out.trans (hbc.mono HB1.out.size))
    have HG := Lib.hid hg
    have HBC := Lib.hid ((hbc.block B (blk_lt HBX.out)).trans HBX.out)
    clear hg hbc
    obtain ⟨_, _, k2, k3, _, _⟩ := (HH.out.below HWC.out).cells
    have b0 : wc.cell? ⟨B, 0, none⟩ = some (.int .u64 id) := by rw [cell_atA 0 HBC.out]; rfl
    have b1 : wc.cell? ⟨B, 1, none⟩ = some (.int .i64 ix) := by rw [cell_atA 1 HBC.out]; rfl
    have q2 : ∀ n, (Instr.lookup 59 (.map (some bp)) (.int .u64 id) false).run Try.prog (wc.drewN n) = _ := fun n => H2.out _ (below_drew HWC.out n)
    have q3 : ∀ n, (Instr.lookup 77 (.map mv) (.int .i64 ix) true).run Try.prog (wc.drewN n) = _ := fun n => H3.out _ (below_drew HWC.out n)
    go_wp2_with fail
    go_quiet (fail)
    clear q2 q3
    have HW4 : Hid (Below w.heap.size w (wc.drewN nq)) := Lib.hid (below_drew HWC.out nq)
    have HG4 : Hid ((wc.drewN nq).heap[g]? = some (.cells #[.int .i64 c0, .int .u64 s0] 66 (0, 0))) := Lib.hid HG.out
    have HB4 : Hid ((wc.drewN nq).heap[B]? = some (.cells #[.int .u64 id, .int .i64 ix, .int .i64 ct, .string sz] 35 (0, 0))) := Lib.hid HBC.out
    clear k2 k3 b0 b1
    generalize wc.drewN nq = w4 at HW4 HG4 HB4 ⊢
    go_wp2_with (go_at_call 17; refine (held_at (HH.out.below HW4.out) HLB.out).mono ?_; rintro e w5 ⟨rfl, hb5⟩; rw [HNL.out, HHH.out]; obtain ⟨k0, k1, _, _, _, _⟩ := (HH.out.below (HW4.out.trans (hb5.mono HW4.out.size))).cells; have g0 : w5.cell? ⟨g, 0, none⟩ = some (.int .i64 c0) := (by rw [cell_atA 0 ((hb5.block g (blk_lt HG4.out)).trans HG4.out)]; rfl); have b2 : w5.cell? ⟨B, 2, none⟩ = some (.int .i64 ct) := (by rw [cell_atA 2 ((hb5.block B (blk_lt HB4.out)).trans HB4.out)]; rfl); have b3 : w5.cell? ⟨B, 3, none⟩ = some (.string sz) := (by rw [cell_atA 3 ((hb5.block B (blk_lt HB4.out)).trans HB4.out)]; rfl); have HW5 := Lib.hid (HW4.out.trans (hb5.mono HW4.out.size)); clear hb5)
    go_quiet (fail)
    go_wp2_with fail
    go_ret
    exact ⟨rfl, below_drew HW5.out _⟩
set_option maxHeartbeats 4000000 in
theorem refusal_n0 {w : World} {p bh bp : Nat} {s b : Int} {l : List Ms} {ps : List (Ms × Nat)} (h : PAt w p bh bp s b l ps) (hB : heldM l ≤ 65536) (id ix ct : Int) (sz : ByteArray) (hsz : sz.size ≤ 1000000) (c0 s0 : Int) (mv : Option Nat) (u : ByteArray) (cm : Bool) (nl hh : Int) (hnl : (l.length : Int) = nl) (hhh : (heldM l : Int) = hh)
    (h1 : ∀ W, Below w.heap.size w W → (Instr.lookup 58 (.map (some bh)) (.int .u64 id) true).run Try.prog W = .ok (.tuple #[.agg #[.int .i64 c0, .int .u64 s0], .bool false]) W)
    (h2 : ∀ W, Below w.heap.size w W → (Instr.lookup 59 (.map (some bp)) (.int .u64 id) false).run Try.prog W = .ok (.map mv) W)
    (h3 : ∀ W, Below w.heap.size w W → (Instr.lookup 77 (.map mv) (.int .i64 ix) true).run Try.prog W = .ok (.tuple #[.string u, .bool cm]) W)
    (hcm : cm = false) (hs : ¬ nl = s) (hb : ¬ b < hh + (sz.size : Int)) :
    Calls Try.prog 27 #[.pointer (some ⟨p, 0, none⟩), .agg #[.int .u64 id, .int .i64 ix, .int .i64 ct, .string sz]] w fun e w' => e = .returned (.int .i64 0) ∧ Below w.heap.size w w' := by
  subst hcm
  have HH := Lib.hid h
  have H1 := Lib.hid h1
  have H2 := Lib.hid h2
  have H3 := Lib.hid h3
  have HLB : Hid (heldM l ≤ 65536) := Lib.hid hB
  have HNL := Lib.hid hnl
  have HHH := Lib.hid hhh
  have hwr : IntKind.i64.wrap (hh + (sz.size : Int)) = hh + (sz.size : Int) := i64_mil (by omega) (by omega)
  obtain ⟨u1, hu1⟩ : ∃ u1, u1 = w.alloc (.cells #[.int .u64 id, .int .i64 ix, .int .i64 ct, .string sz] 35) := ⟨_, rfl⟩
  obtain ⟨B, hB0⟩ : ∃ B, B = w.heap.size := ⟨_, rfl⟩
  have hb1 : Below w.heap.size w u1 := by rw [hu1]; exact below_alloc w _
  have hbx : u1.heap[B]? = some (.cells #[.int .u64 id, .int .i64 ix, .int .i64 ct, .string sz] 35 (0, 0)) := by rw [hu1, hB0]; exact heap_alloc_new w _
  have HBX := Lib.hid hbx
  have HB1 := Lib.hid hb1
  have HU := Lib.hid hu1
  have HBE := Lib.hid hB0
  clear h h1 h2 h3 hb1 hbx hB hsz hnl hhh
  go_enter Try.func27, Try.ntmps27
  go_upto_region 1 with fail
  rw [← hu1, ← hB0]
  clear hu1 hB0
  go_cut [5, 6] from 11 to 20 (fun x5 x6 wx => ∃ g, x5 = .pointer (some ⟨g, 0, none⟩) ∧ x6 = .bool false ∧ wx.heap[g]? = some (.cells #[.int .i64 c0, .int .u64 s0] 66 (0, 0)) ∧ Below u1.heap.size u1 wx)
  case first =>
    obtain ⟨_, _, k2, k3, _, _⟩ := (HH.out.below HB1.out).cells
    have b0 : u1.cell? ⟨B, 0, none⟩ = some (.int .u64 id) := by rw [cell_atA 0 HBX.out]; rfl
    have b0' : ∀ o, (u1.alloc o).cell? ⟨B, 0, none⟩ = some (.int .u64 id) := fun o => ((below_alloc u1 o).cell (block_lt_of_cell b0)).trans b0
    have k2' : ∀ o, (u1.alloc o).cell? ⟨p, 2, none⟩ = some (.map (some bh)) := fun o => ((below_alloc u1 o).cell (block_lt_of_cell k2)).trans k2
    have q1 : (Instr.lookup 58 (.map (some bh)) (.int .u64 id) true).run Try.prog u1.drew = _ := H1.out _ (below_drew1 HB1.out)
    have q2 : ∀ o, (Instr.lookup 58 (.map (some bh)) (.int .u64 id) true).run Try.prog (u1.alloc o).drew = _ := fun o => H1.out _ (below_drew1 (HB1.out.trans ((below_alloc u1 o).mono HB1.out.size)))
    go_region
    go_wp2_with fail
    go_meet
    exact ⟨u1.heap.size, rfl, rfl, heap_alloc_new u1 _, below_drew1 (below_alloc u1 _)⟩
  case rest =>
    obtain ⟨g, rfl, rfl, hg, hbc⟩ := hcut
    have HWC : Hid (Below w.heap.size w wc) := Lib.hid (HB1.out.trans (hbc.mono HB1.out.size))
    have HG := Lib.hid hg
    have HBC := Lib.hid ((hbc.block B (blk_lt HBX.out)).trans HBX.out)
    clear hg hbc
    obtain ⟨_, _, k2, k3, _, _⟩ := (HH.out.below HWC.out).cells
    have b0 : wc.cell? ⟨B, 0, none⟩ = some (.int .u64 id) := by rw [cell_atA 0 HBC.out]; rfl
    have b1 : wc.cell? ⟨B, 1, none⟩ = some (.int .i64 ix) := by rw [cell_atA 1 HBC.out]; rfl
    have q2 : ∀ n, (Instr.lookup 59 (.map (some bp)) (.int .u64 id) false).run Try.prog (wc.drewN n) = _ := fun n => H2.out _ (below_drew HWC.out n)
    have q3 : ∀ n, (Instr.lookup 77 (.map mv) (.int .i64 ix) true).run Try.prog (wc.drewN n) = _ := fun n => H3.out _ (below_drew HWC.out n)
    go_wp2_with fail
    go_quiet (fail)
    clear q2 q3
    have HW4 : Hid (Below w.heap.size w (wc.drewN nq)) := Lib.hid (below_drew HWC.out nq)
    have HG4 : Hid ((wc.drewN nq).heap[g]? = some (.cells #[.int .i64 c0, .int .u64 s0] 66 (0, 0))) := Lib.hid HG.out
    have HB4 : Hid ((wc.drewN nq).heap[B]? = some (.cells #[.int .u64 id, .int .i64 ix, .int .i64 ct, .string sz] 35 (0, 0))) := Lib.hid HBC.out
    clear k2 k3 b0 b1
    generalize wc.drewN nq = w4 at HW4 HG4 HB4 ⊢
    go_wp2_with (go_at_call 17; refine (held_at (HH.out.below HW4.out) HLB.out).mono ?_; rintro e w5 ⟨rfl, hb5⟩; rw [HNL.out, HHH.out]; obtain ⟨k0, k1, _, _, _, _⟩ := (HH.out.below (HW4.out.trans (hb5.mono HW4.out.size))).cells; have g0 : w5.cell? ⟨g, 0, none⟩ = some (.int .i64 c0) := (by rw [cell_atA 0 ((hb5.block g (blk_lt HG4.out)).trans HG4.out)]; rfl); have b2 : w5.cell? ⟨B, 2, none⟩ = some (.int .i64 ct) := (by rw [cell_atA 2 ((hb5.block B (blk_lt HB4.out)).trans HB4.out)]; rfl); have b3 : w5.cell? ⟨B, 3, none⟩ = some (.string sz) := (by rw [cell_atA 3 ((hb5.block B (blk_lt HB4.out)).trans HB4.out)]; rfl); have HW5 := Lib.hid (HW4.out.trans (hb5.mono HW4.out.size)); clear hb5)
    go_quiet (fail)
    go_wp2_with fail
    go_ret
    exact ⟨rfl, below_drew HW5.out _⟩
set_option maxHeartbeats 4000000 in
theorem refusal_s8 {w : World} {p bh bp : Nat} {s b : Int} {l : List Ms} {ps : List (Ms × Nat)} (h : PAt w p bh bp s b l ps) (hB : heldM l ≤ 65536) (id ix ct : Int) (sz : ByteArray) (hsz : sz.size ≤ 1000000) (s0 : Int) (mv : Option Nat) (u : ByteArray) (cm : Bool) (nl hh : Int) (hnl : (l.length : Int) = nl) (hhh : (heldM l : Int) = hh)
    (h1 : ∀ W, Below w.heap.size w W → (Instr.lookup 58 (.map (some bh)) (.int .u64 id) true).run Try.prog W = .ok (.tuple #[.agg #[.int .i64 ct, .int .u64 s0], .bool true]) W)
    (h2 : ∀ W, Below w.heap.size w W → (Instr.lookup 59 (.map (some bp)) (.int .u64 id) false).run Try.prog W = .ok (.map mv) W)
    (h3 : ∀ W, Below w.heap.size w W → (Instr.lookup 77 (.map mv) (.int .i64 ix) true).run Try.prog W = .ok (.tuple #[.string u, .bool cm]) W)
    (hcm : cm = false) (hb : b < hh + (sz.size : Int)) :
    Calls Try.prog 27 #[.pointer (some ⟨p, 0, none⟩), .agg #[.int .u64 id, .int .i64 ix, .int .i64 ct, .string sz]] w fun e w' => e = .returned (.int .i64 8) ∧ Below w.heap.size w w' := by
  subst hcm
  have HH := Lib.hid h
  have H1 := Lib.hid h1
  have H2 := Lib.hid h2
  have H3 := Lib.hid h3
  have HLB : Hid (heldM l ≤ 65536) := Lib.hid hB
  have HNL := Lib.hid hnl
  have HHH := Lib.hid hhh
  have hwr : IntKind.i64.wrap (hh + (sz.size : Int)) = hh + (sz.size : Int) := i64_mil (by omega) (by omega)
  obtain ⟨u1, hu1⟩ : ∃ u1, u1 = w.alloc (.cells #[.int .u64 id, .int .i64 ix, .int .i64 ct, .string sz] 35) := ⟨_, rfl⟩
  obtain ⟨B, hB0⟩ : ∃ B, B = w.heap.size := ⟨_, rfl⟩
  have hb1 : Below w.heap.size w u1 := by rw [hu1]; exact below_alloc w _
  have hbx : u1.heap[B]? = some (.cells #[.int .u64 id, .int .i64 ix, .int .i64 ct, .string sz] 35 (0, 0)) := by rw [hu1, hB0]; exact heap_alloc_new w _
  have HBX := Lib.hid hbx
  have HB1 := Lib.hid hb1
  have HU := Lib.hid hu1
  have HBE := Lib.hid hB0
  clear h h1 h2 h3 hb1 hbx hB hsz hnl hhh
  go_enter Try.func27, Try.ntmps27
  go_upto_region 1 with fail
  rw [← hu1, ← hB0]
  clear hu1 hB0
  go_cut [5, 6] from 11 to 20 (fun x5 x6 wx => ∃ g, x5 = .pointer (some ⟨g, 0, none⟩) ∧ x6 = .bool true ∧ wx.heap[g]? = some (.cells #[.int .i64 ct, .int .u64 s0] 66 (0, 0)) ∧ Below u1.heap.size u1 wx)
  case first =>
    obtain ⟨_, _, k2, k3, _, _⟩ := (HH.out.below HB1.out).cells
    have b0 : u1.cell? ⟨B, 0, none⟩ = some (.int .u64 id) := by rw [cell_atA 0 HBX.out]; rfl
    have b0' : ∀ o, (u1.alloc o).cell? ⟨B, 0, none⟩ = some (.int .u64 id) := fun o => ((below_alloc u1 o).cell (block_lt_of_cell b0)).trans b0
    have k2' : ∀ o, (u1.alloc o).cell? ⟨p, 2, none⟩ = some (.map (some bh)) := fun o => ((below_alloc u1 o).cell (block_lt_of_cell k2)).trans k2
    have q1 : (Instr.lookup 58 (.map (some bh)) (.int .u64 id) true).run Try.prog u1.drew = _ := H1.out _ (below_drew1 HB1.out)
    have q2 : ∀ o, (Instr.lookup 58 (.map (some bh)) (.int .u64 id) true).run Try.prog (u1.alloc o).drew = _ := fun o => H1.out _ (below_drew1 (HB1.out.trans ((below_alloc u1 o).mono HB1.out.size)))
    go_region
    go_wp2_with fail
    go_meet
    exact ⟨u1.heap.size, rfl, rfl, heap_alloc_new u1 _, below_drew1 (below_alloc u1 _)⟩
  case rest =>
    obtain ⟨g, rfl, rfl, hg, hbc⟩ := hcut
    have HWC : Hid (Below w.heap.size w wc) := Lib.hid (HB1.out.trans (hbc.mono HB1.out.size))
    have HG := Lib.hid hg
    have HBC := Lib.hid ((hbc.block B (blk_lt HBX.out)).trans HBX.out)
    clear hg hbc
    obtain ⟨_, _, k2, k3, _, _⟩ := (HH.out.below HWC.out).cells
    have b0 : wc.cell? ⟨B, 0, none⟩ = some (.int .u64 id) := by rw [cell_atA 0 HBC.out]; rfl
    have b1 : wc.cell? ⟨B, 1, none⟩ = some (.int .i64 ix) := by rw [cell_atA 1 HBC.out]; rfl
    have q2 : ∀ n, (Instr.lookup 59 (.map (some bp)) (.int .u64 id) false).run Try.prog (wc.drewN n) = _ := fun n => H2.out _ (below_drew HWC.out n)
    have q3 : ∀ n, (Instr.lookup 77 (.map mv) (.int .i64 ix) true).run Try.prog (wc.drewN n) = _ := fun n => H3.out _ (below_drew HWC.out n)
    go_wp2_with fail
    go_quiet (fail)
    clear q2 q3
    have HW4 : Hid (Below w.heap.size w (wc.drewN nq)) := Lib.hid (below_drew HWC.out nq)
    have HG4 : Hid ((wc.drewN nq).heap[g]? = some (.cells #[.int .i64 ct, .int .u64 s0] 66 (0, 0))) := Lib.hid HG.out
    have HB4 : Hid ((wc.drewN nq).heap[B]? = some (.cells #[.int .u64 id, .int .i64 ix, .int .i64 ct, .string sz] 35 (0, 0))) := Lib.hid HBC.out
    clear k2 k3 b0 b1
    generalize wc.drewN nq = w4 at HW4 HG4 HB4 ⊢
    go_wp2_with (go_at_call 17; refine (held_at (HH.out.below HW4.out) HLB.out).mono ?_; rintro e w5 ⟨rfl, hb5⟩; rw [HNL.out, HHH.out]; obtain ⟨k0, k1, _, _, _, _⟩ := (HH.out.below (HW4.out.trans (hb5.mono HW4.out.size))).cells; have g0 : w5.cell? ⟨g, 0, none⟩ = some (.int .i64 ct) := (by rw [cell_atA 0 ((hb5.block g (blk_lt HG4.out)).trans HG4.out)]; rfl); have b2 : w5.cell? ⟨B, 2, none⟩ = some (.int .i64 ct) := (by rw [cell_atA 2 ((hb5.block B (blk_lt HB4.out)).trans HB4.out)]; rfl); have b3 : w5.cell? ⟨B, 3, none⟩ = some (.string sz) := (by rw [cell_atA 3 ((hb5.block B (blk_lt HB4.out)).trans HB4.out)]; rfl); have HW5 := Lib.hid (HW4.out.trans (hb5.mono HW4.out.size)); clear hb5)
    go_quiet (fail)
    go_wp2_with fail
    go_ret
    exact ⟨rfl, below_drew HW5.out _⟩
set_option maxHeartbeats 4000000 in
theorem refusal_s0 {w : World} {p bh bp : Nat} {s b : Int} {l : List Ms} {ps : List (Ms × Nat)} (h : PAt w p bh bp s b l ps) (hB : heldM l ≤ 65536) (id ix ct : Int) (sz : ByteArray) (hsz : sz.size ≤ 1000000) (s0 : Int) (mv : Option Nat) (u : ByteArray) (cm : Bool) (nl hh : Int) (hnl : (l.length : Int) = nl) (hhh : (heldM l : Int) = hh)
    (h1 : ∀ W, Below w.heap.size w W → (Instr.lookup 58 (.map (some bh)) (.int .u64 id) true).run Try.prog W = .ok (.tuple #[.agg #[.int .i64 ct, .int .u64 s0], .bool true]) W)
    (h2 : ∀ W, Below w.heap.size w W → (Instr.lookup 59 (.map (some bp)) (.int .u64 id) false).run Try.prog W = .ok (.map mv) W)
    (h3 : ∀ W, Below w.heap.size w W → (Instr.lookup 77 (.map mv) (.int .i64 ix) true).run Try.prog W = .ok (.tuple #[.string u, .bool cm]) W)
    (hcm : cm = false) (hb : ¬ b < hh + (sz.size : Int)) :
    Calls Try.prog 27 #[.pointer (some ⟨p, 0, none⟩), .agg #[.int .u64 id, .int .i64 ix, .int .i64 ct, .string sz]] w fun e w' => e = .returned (.int .i64 0) ∧ Below w.heap.size w w' := by
  subst hcm
  have HH := Lib.hid h
  have H1 := Lib.hid h1
  have H2 := Lib.hid h2
  have H3 := Lib.hid h3
  have HLB : Hid (heldM l ≤ 65536) := Lib.hid hB
  have HNL := Lib.hid hnl
  have HHH := Lib.hid hhh
  have hwr : IntKind.i64.wrap (hh + (sz.size : Int)) = hh + (sz.size : Int) := i64_mil (by omega) (by omega)
  obtain ⟨u1, hu1⟩ : ∃ u1, u1 = w.alloc (.cells #[.int .u64 id, .int .i64 ix, .int .i64 ct, .string sz] 35) := ⟨_, rfl⟩
  obtain ⟨B, hB0⟩ : ∃ B, B = w.heap.size := ⟨_, rfl⟩
  have hb1 : Below w.heap.size w u1 := by rw [hu1]; exact below_alloc w _
  have hbx : u1.heap[B]? = some (.cells #[.int .u64 id, .int .i64 ix, .int .i64 ct, .string sz] 35 (0, 0)) := by rw [hu1, hB0]; exact heap_alloc_new w _
  have HBX := Lib.hid hbx
  have HB1 := Lib.hid hb1
  have HU := Lib.hid hu1
  have HBE := Lib.hid hB0
  clear h h1 h2 h3 hb1 hbx hB hsz hnl hhh
  go_enter Try.func27, Try.ntmps27
  go_upto_region 1 with fail
  rw [← hu1, ← hB0]
  clear hu1 hB0
  go_cut [5, 6] from 11 to 20 (fun x5 x6 wx => ∃ g, x5 = .pointer (some ⟨g, 0, none⟩) ∧ x6 = .bool true ∧ wx.heap[g]? = some (.cells #[.int .i64 ct, .int .u64 s0] 66 (0, 0)) ∧ Below u1.heap.size u1 wx)
  case first =>
    obtain ⟨_, _, k2, k3, _, _⟩ := (HH.out.below HB1.out).cells
    have b0 : u1.cell? ⟨B, 0, none⟩ = some (.int .u64 id) := by rw [cell_atA 0 HBX.out]; rfl
    have b0' : ∀ o, (u1.alloc o).cell? ⟨B, 0, none⟩ = some (.int .u64 id) := fun o => ((below_alloc u1 o).cell (block_lt_of_cell b0)).trans b0
    have k2' : ∀ o, (u1.alloc o).cell? ⟨p, 2, none⟩ = some (.map (some bh)) := fun o => ((below_alloc u1 o).cell (block_lt_of_cell k2)).trans k2
    have q1 : (Instr.lookup 58 (.map (some bh)) (.int .u64 id) true).run Try.prog u1.drew = _ := H1.out _ (below_drew1 HB1.out)
    have q2 : ∀ o, (Instr.lookup 58 (.map (some bh)) (.int .u64 id) true).run Try.prog (u1.alloc o).drew = _ := fun o => H1.out _ (below_drew1 (HB1.out.trans ((below_alloc u1 o).mono HB1.out.size)))
    go_region
    go_wp2_with fail
    go_meet
    exact ⟨u1.heap.size, rfl, rfl, heap_alloc_new u1 _, below_drew1 (below_alloc u1 _)⟩
  case rest =>
    obtain ⟨g, rfl, rfl, hg, hbc⟩ := hcut
    have HWC : Hid (Below w.heap.size w wc) := Lib.hid (HB1.out.trans (hbc.mono HB1.out.size))
    have HG := Lib.hid hg
    have HBC := Lib.hid ((hbc.block B (blk_lt HBX.out)).trans HBX.out)
    clear hg hbc
    obtain ⟨_, _, k2, k3, _, _⟩ := (HH.out.below HWC.out).cells
    have b0 : wc.cell? ⟨B, 0, none⟩ = some (.int .u64 id) := by rw [cell_atA 0 HBC.out]; rfl
    have b1 : wc.cell? ⟨B, 1, none⟩ = some (.int .i64 ix) := by rw [cell_atA 1 HBC.out]; rfl
    have q2 : ∀ n, (Instr.lookup 59 (.map (some bp)) (.int .u64 id) false).run Try.prog (wc.drewN n) = _ := fun n => H2.out _ (below_drew HWC.out n)
    have q3 : ∀ n, (Instr.lookup 77 (.map mv) (.int .i64 ix) true).run Try.prog (wc.drewN n) = _ := fun n => H3.out _ (below_drew HWC.out n)
    go_wp2_with fail
    go_quiet (fail)
    clear q2 q3
    have HW4 : Hid (Below w.heap.size w (wc.drewN nq)) := Lib.hid (below_drew HWC.out nq)
    have HG4 : Hid ((wc.drewN nq).heap[g]? = some (.cells #[.int .i64 ct, .int .u64 s0] 66 (0, 0))) := Lib.hid HG.out
    have HB4 : Hid ((wc.drewN nq).heap[B]? = some (.cells #[.int .u64 id, .int .i64 ix, .int .i64 ct, .string sz] 35 (0, 0))) := Lib.hid HBC.out
    clear k2 k3 b0 b1
    generalize wc.drewN nq = w4 at HW4 HG4 HB4 ⊢
    go_wp2_with (go_at_call 17; refine (held_at (HH.out.below HW4.out) HLB.out).mono ?_; rintro e w5 ⟨rfl, hb5⟩; rw [HNL.out, HHH.out]; obtain ⟨k0, k1, _, _, _, _⟩ := (HH.out.below (HW4.out.trans (hb5.mono HW4.out.size))).cells; have g0 : w5.cell? ⟨g, 0, none⟩ = some (.int .i64 ct) := (by rw [cell_atA 0 ((hb5.block g (blk_lt HG4.out)).trans HG4.out)]; rfl); have b2 : w5.cell? ⟨B, 2, none⟩ = some (.int .i64 ct) := (by rw [cell_atA 2 ((hb5.block B (blk_lt HB4.out)).trans HB4.out)]; rfl); have b3 : w5.cell? ⟨B, 3, none⟩ = some (.string sz) := (by rw [cell_atA 3 ((hb5.block B (blk_lt HB4.out)).trans HB4.out)]; rfl); have HW5 := Lib.hid (HW4.out.trans (hb5.mono HW4.out.size)); clear hb5)
    go_quiet (fail)
    go_wp2_with fail
    go_ret
    exact ⟨rfl, below_drew HW5.out _⟩
end Go.Proofs.Ytjcgckhheegonaa
