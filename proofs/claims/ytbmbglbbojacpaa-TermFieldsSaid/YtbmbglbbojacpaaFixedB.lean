/- The fixed calls: that they answer true, and nothing that was there turns. -/
import Derived.Test.YtbmbglbbojacpaaFixed
namespace Go.Proofs.Ytbmbglbbojacpaa
open Go.RowKit
set_option linter.unusedVariables false

set_option maxHeartbeats 4000000 in
set_option maxRecDepth 100000 in
theorem fixed_any (w : World) : Calls Try.prog 22 #[] w fun e w' => e = .returned (.bool true) ∧ Below w.heap.size w w' := by
  go_enter Try.func22, Try.ntmps22
  go_wp2_with fail
  refine (new_e w.heap.size 3 w w rfl (Below.refl _ _) (by omega) (by omega)).mono ?_
  rintro e w1 ⟨g, rfl, h1⟩
  go_wp2_with fail
  refine (newP_bad (-1) _ (by omega)).mono ?_
  rintro e w2 ⟨rfl, rfl⟩
  go_wp2_with fail
  refine (put_e fx1 _ h1 wf1 pf1).mono ?_
  rintro e w2 ⟨rfl, h2⟩
  clear h1
  go_wp2_with fail
  refine (put_e fx2 _ h2 wf2 pf2).mono ?_
  rintro e w3 ⟨rfl, h3⟩
  clear h2
  go_wp2_with fail
  refine (put_e fx1 _ h3 wf1 pf3).mono ?_
  rintro e w4 ⟨rfl, h4⟩
  clear h3
  go_wp2_with fail
  refine (put_e fx3 _ h4 wf3 pf4).mono ?_
  rintro e w5 ⟨rfl, h5⟩
  clear h4
  go_wp2_with fail
  refine (put_e fx4 _ h5 wf4 pf5).mono ?_
  rintro e w6 ⟨rfl, h6⟩
  clear h5
  go_wp2_with fail
  refine (put_e fx5 _ h6 wf5 pf6).mono ?_
  rintro e w7 ⟨rfl, h7⟩
  clear h6
  go_wp2_with fail
  refine (put_e fx6 _ h7 wf6 pf7).mono ?_
  rintro e w8 ⟨rfl, h8⟩
  clear h7
  go_wp2_with fail
  refine (put_e fx7 _ h8 wf7 pf8).mono ?_
  rintro e w9 ⟨rfl, h9⟩
  clear h8
  go_wp2_with fail
  refine (put_e zeroT _ h9 wf0 pf9).mono ?_
  rintro e w10 ⟨rfl, h10⟩
  clear h9
  go_wp2_with fail
  refine (get_e _ h10 2 gf1).mono ?_
  rintro e w11 ⟨rfl, h11⟩
  clear h10
  rw [show ((fx2, true) : Tm × Bool).1.v = Value.agg #[.int .i64 3, .string ⟨#[]⟩, .int .u64 0, .int .i64 1, .int .i64 0, .int .i64 0] from rfl]
  go_wp2_with fail
  obtain ⟨W, hW⟩ : ∃ W, W = w11.alloc (.cells #[.int .i64 3, .string ⟨#[]⟩, .int .u64 0, .int .i64 1, .int .i64 0, .int .i64 0] 32) := ⟨_, rfl⟩
  have hW12 : PSe w.heap.size g [fx1, fx2, fx3] 3 w W := by rw [hW]; exact h11.below ((Below.refl _ _).alloc (Nat.le_refl _) _)
  have hbx : W.heap[w11.heap.size]? = some (.cells #[.int .i64 3, .string ⟨#[]⟩, .int .u64 0, .int .i64 1, .int .i64 0, .int .i64 0] 32 (0, 0)) := by rw [hW]; exact heap_alloc_new w11 _
  have HBX := Lib.hid hbx
  rw [← hW]
  clear hW h11 hbx
  refine (get_p W hW12.1.choose_spec 0).mono ?_
  rintro e w12 ⟨rfl, hb12⟩
  rw [gf2, show ((zeroT, false) : Tm × Bool).1.v = Value.agg #[.int .i64 0, .string ⟨#[]⟩, .int .u64 0, .int .i64 0, .int .i64 0, .int .i64 0] from rfl]
  have h12 := hW12.below hb12
  have hbx : w12.heap[w11.heap.size]? = some (.cells #[.int .i64 3, .string ⟨#[]⟩, .int .u64 0, .int .i64 1, .int .i64 0, .int .i64 0] 32 (0, 0)) := by rw [hb12.block _ (blk_lt HBX.out)]; exact HBX.out
  clear hW12 hb12 HBX
  have HBX := Lib.hid hbx
  have z : ∀ j, w12.cell? ⟨w11.heap.size, j, none⟩ = #[Value.int .i64 3, .string ⟨#[]⟩, .int .u64 0, .int .i64 1, .int .i64 0, .int .i64 0][j]? := fun j => cell_of_row _ _ j _ _ _ hbx
  have z0 := z 0
  have z1 := z 1
  have z2 := z 2
  have z3 := z 3
  have z4 := z 4
  have z5 := z 5
  simp at z0 z1 z2 z3 z4 z5
  have hE := eql_termP fx2 fx2
  have hgd := guard32
  rw [(eqB_iff fx2 fx2).2 rfl] at hE
  unfold Tm.v fx2 at hE
  simp only [] at hE
  have hlt : w11.heap.size < w12.heap.size := blk_lt hbx
  have HX : Hid (∀ o, PSe w.heap.size g [fx1, fx2, fx3] 3 w (w12.alloc o)) := Lib.hid (fun o => h12.below ((Below.refl _ _).alloc (Nat.le_refl _) _))
  have HBY : Hid (∀ o, (w12.alloc o).heap[w11.heap.size]? = some (.cells #[.int .i64 3, .string ⟨#[]⟩, .int .u64 0, .int .i64 1, .int .i64 0, .int .i64 0] 32 (0, 0))) := Lib.hid (fun o => by rw [Below.heap_alloc _ _ _ hlt]; exact hbx)
  clear z hbx h12 HBX
  go_wp2_with fail
  refine (depth_e _ (HX.out _) 1 df1).mono ?_
  rintro e w13 ⟨rfl, rfl⟩
  go_wp2_with fail
  refine (depth_e _ (HX.out _) 3 df2).mono ?_
  rintro e w13 ⟨rfl, rfl⟩
  go_wp2_with fail
  refine (depth_e _ (HX.out _) 9 df3).mono ?_
  rintro e w13 ⟨rfl, rfl⟩
  go_wp2_with fail
  refine (len_e (x := 3) _ (HX.out _) rfl).mono ?_
  rintro e w13 ⟨rfl, rfl⟩
  go_wp2_with fail
  refine (parts_prog _ _ _ _ _ _ _).mono ?_
  rintro e w14 ⟨b, rfl, hb14, hbs, hcells⟩
  rw [show partsV b 10 = .slice (some ⟨b, 0, none⟩) 3 3 from rfl]
  have h14 := ((HX.out _).below hb14)
  have hb0 : w14.heap[w11.heap.size]? = some (.cells #[.int .i64 3, .string ⟨#[]⟩, .int .u64 0, .int .i64 1, .int .i64 0, .int .i64 0] 32 (0, 0)) := by rw [hb14.block _ (blk_lt (HBY.out _))]; exact HBY.out _
  have HCC := Lib.hid hcells
  have H14 := Lib.hid h14
  have HB0 := Lib.hid hb0
  clear hb14 hbs hcells h14 hb0 z0 z1 z2 z3 z4 z5 hE hlt HX HBY
  go_wp2_with fail
  refine (same_some b w14.heap.size 3 3 3 (partAt 4 5 6) _ (by omega) (fun j hj => ?_) (fun j hj => ?_)).mono ?_
  · rw [World.cell?_alloc_past _ _ _ (block_lt_of_cell (HCC.out j hj))]; exact HCC.out j hj
  · rw [cell_of_row _ _ j _ _ _ (heap_alloc_new w14 _)]
    rcases (by omega : j = 0 ∨ j = 1 ∨ j = 2) with rfl | rfl | rfl <;> rfl
  rintro e w15 ⟨rfl, q, hq⟩
  have hb15 : Below w14.heap.size w14 w15 := by rw [hq]; exact ((Below.refl _ _).alloc (Nat.le_refl _) _).trans ⟨rfl, rfl, rfl, Nat.le_refl _, fun _ _ => rfl⟩
  have h15 := H14.out.below hb15
  have hb0 : w15.heap[w11.heap.size]? = some (.cells #[.int .i64 3, .string ⟨#[]⟩, .int .u64 0, .int .i64 1, .int .i64 0, .int .i64 0] 32 (0, 0)) := by rw [hb15.block _ (blk_lt HB0.out)]; exact HB0.out
  have z : ∀ j, w15.cell? ⟨w11.heap.size, j, none⟩ = #[Value.int .i64 3, .string ⟨#[]⟩, .int .u64 0, .int .i64 1, .int .i64 0, .int .i64 0][j]? := fun j => cell_of_row _ _ j _ _ _ hb0
  have z0 := z 0
  have z1 := z 1
  have z2 := z 2
  have z3 := z 3
  have z4 := z 4
  have z5 := z 5
  simp at z0 z1 z2 z3 z4 z5
  have H15 := Lib.hid h15
  clear hq hb15 h15 hb0 z H14 HB0 HCC
  go_wp2_with fail
  refine (parts_prog _ _ _ _ _ _ _).mono ?_
  rintro e w16 ⟨b2, rfl, hb16, hbs2, hcells2⟩
  rw [show partsV b2 3 = .slice (some ⟨b2, 0, none⟩) 1 1 from rfl]
  have H16 := Lib.hid (H15.out.below hb16)
  clear hb16 hbs2 hcells2 z0 z1 z2 z3 z4 z5
  go_wp2
  go_ret
  exact ⟨rfl, H16.out.2.2⟩
end Go.Proofs.Ytbmbglbbojacpaa
