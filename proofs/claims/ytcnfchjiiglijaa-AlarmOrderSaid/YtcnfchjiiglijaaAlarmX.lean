/- The calls whose answers the document fixes. -/
import Derived.Test.YtcnfchjiiglijaaAlarmV
namespace Go.Proofs.Ytcnfchjiiglijaa
open Go.RowKit
set_option linter.unusedVariables false
set_option linter.unusedSimpArgs false
set_option maxRecDepth 20000

set_option maxHeartbeats 8000000 in
set_option maxRecDepth 100000 in
theorem fixed_any (w : World) : Calls Try.prog 20 #[] w fun e w' => e = .returned (.bool true) ∧ Below w.heap.size w w' := by
  go_enter Try.func20, Try.ntmps20
  go_wp2_with fail
  refine (new_s 3 3 w w (Below.refl _ _) rfl).mono ?_
  rintro e w1 ⟨p, F1, rfl, ha, hfn, hb⟩
  have HA := Lib.hid ha
  clear ha hfn hb
  go_wp2_with fail
  refine (put_s HA.out 7 20 0 [⟨7, 20⟩] 0 (by decide) ⟨by decide, by decide⟩ ⟨by decide, by decide⟩ (by kernel_rfl) rfl).mono ?_
  rintro e w2 ⟨F2, rfl, ha, hf, hc⟩
  replace HA := Lib.hid ha
  clear ha hf hc
  go_wp2_with fail
  refine (put_s HA.out 3 20 0 [⟨3, 20⟩, ⟨7, 20⟩] 0 (by decide) ⟨by decide, by decide⟩ ⟨by decide, by decide⟩ (by kernel_rfl) rfl).mono ?_
  rintro e w3 ⟨F3, rfl, ha, hf, hc⟩
  replace HA := Lib.hid ha
  clear ha hf hc
  go_wp2_with fail
  refine (put_s HA.out 9 10 0 [⟨9, 10⟩, ⟨3, 20⟩, ⟨7, 20⟩] 0 (by decide) ⟨by decide, by decide⟩ ⟨by decide, by decide⟩ (by kernel_rfl) rfl).mono ?_
  rintro e w4 ⟨F4, rfl, ha, hf, hc⟩
  replace HA := Lib.hid ha
  clear ha hf hc
  go_wp2_with fail
  refine (put_s HA.out 4 1 8 [⟨9, 10⟩, ⟨3, 20⟩, ⟨7, 20⟩] 8 (by decide) ⟨by decide, by decide⟩ ⟨by decide, by decide⟩ (by kernel_rfl) rfl).mono ?_
  rintro e w5 ⟨F5, rfl, ha, hf, hc⟩
  replace HA := Lib.hid ha
  clear ha hf hc
  go_wp2_with fail
  refine (first_s HA.out 10 true (by decide) (by kernel_rfl)).mono ?_
  rintro e w6 ⟨rfl, hb⟩
  replace HA := Lib.hid (HA.out.below hb)
  clear hb
  go_wp2_with fail
  refine (put_s HA.out 9 30 0 [⟨3, 20⟩, ⟨7, 20⟩, ⟨9, 30⟩] 0 (by decide) ⟨by decide, by decide⟩ ⟨by decide, by decide⟩ (by kernel_rfl) rfl).mono ?_
  rintro e w7 ⟨F7, rfl, ha, hf, hc⟩
  replace HA := Lib.hid ha
  clear ha hf hc
  go_wp2_with fail
  refine (drop_s HA.out 3 [⟨7, 20⟩, ⟨9, 30⟩] true (by decide) ⟨by decide, by decide⟩ (by kernel_rfl) (by kernel_rfl)).mono ?_
  rintro e w8 ⟨F8, rfl, ha, hf, hc⟩
  replace HA := Lib.hid ha
  clear ha hf hc
  go_wp2_with fail
  refine (drop_s HA.out 3 [⟨7, 20⟩, ⟨9, 30⟩] false (by decide) ⟨by decide, by decide⟩ (by kernel_rfl) (by kernel_rfl)).mono ?_
  rintro e w9 ⟨F9, rfl, ha, hf, hc⟩
  replace HA := Lib.hid ha
  clear ha hf hc
  go_wp2_with fail
  refine (put_s HA.out 3 20 0 [⟨3, 20⟩, ⟨7, 20⟩, ⟨9, 30⟩] 0 (by decide) ⟨by decide, by decide⟩ ⟨by decide, by decide⟩ (by kernel_rfl) rfl).mono ?_
  rintro e w10 ⟨F10, rfl, ha, hf, hc⟩
  replace HA := Lib.hid ha
  clear ha hf hc
  go_wp2_with fail
  refine (due_s HA.out 20 [⟨9, 30⟩] [3, 7] (by decide) ⟨by decide, by decide⟩ (by kernel_rfl) (by kernel_rfl)).mono ?_
  rintro e w11 ⟨F11, vDA, rfl, hd, ha, hf, hc⟩
  replace HA := Lib.hid ha
  have DA := Lib.hid hd
  clear ha hd hf hc
  go_wp2_with fail
  refine (due_s HA.out 30 [] [9] (by decide) ⟨by decide, by decide⟩ (by kernel_rfl) (by kernel_rfl)).mono ?_
  rintro e w12 ⟨F12, vDB, rfl, hd, ha, hf, hc⟩
  replace DA := Lib.hid (DA.out.keep hc hf)
  replace HA := Lib.hid ha
  have DB := Lib.hid hd
  clear ha hd hf hc
  go_wp2_with fail
  refine (first_s HA.out 0 false (by decide) (by kernel_rfl)).mono ?_
  rintro e w13 ⟨rfl, hb⟩
  replace DA := Lib.hid (DA.out.below hb)
  replace DB := Lib.hid (DB.out.below hb)
  replace HA := Lib.hid (HA.out.below hb)
  clear hb
  obtain ⟨aA, cA, hvA, hrA⟩ := DA.out.at
  obtain ⟨aB, cB, hvB, hrB⟩ := DB.out.at
  subst hvA hvB
  have RDA := Lib.hid hrA
  have RDB := Lib.hid hrB
  clear hrA hrB DA DB
  go_wp2_with fail
  refine (rsame_true _ (some ⟨w13.heap.size, 0, none⟩) 2 _ 2 [3, 7] (w13.alloc (.cells #[.int .u64 3, .int .u64 7] 29)) rfl (RDA.out.below (below_alloc _ _)) (lit_row .u64 29 w13 [3, 7] (by decide))).mono ?_
  rintro e w14 ⟨rfl, hb0⟩
  have hb : Below w13.heap.size w13 w14 := (below_alloc w13 (.cells #[.int .u64 3, .int .u64 7] 29)).trans (hb0.mono (by simp))
  clear hb0
  replace RDA := Lib.hid (RDA.out.below hb)
  replace RDB := Lib.hid (RDB.out.below hb)
  replace HA := Lib.hid (HA.out.below hb)
  clear hb
  go_wp2_with fail
  refine (rsame_true _ (some ⟨w14.heap.size, 0, none⟩) 1 _ 1 [9] (w14.alloc (.cells #[.int .u64 9] 29)) rfl (RDB.out.below (below_alloc _ _)) (lit_row .u64 29 w14 [9] (by decide))).mono ?_
  rintro e w15 ⟨rfl, hb0⟩
  have hb : Below w14.heap.size w14 w15 := (below_alloc w14 (.cells #[.int .u64 9] 29)).trans (hb0.mono (by simp))
  clear hb0
  replace RDA := Lib.hid (RDA.out.below hb)
  replace RDB := Lib.hid (RDB.out.below hb)
  replace HA := Lib.hid (HA.out.below hb)
  clear hb
  go_wp2_with fail
  refine (len_s HA.out 0 (by decide) rfl).mono ?_
  rintro e w16 ⟨rfl, hb⟩
  replace HA := Lib.hid (HA.out.below hb)
  clear hb
  go_wp2_with fail
  go_ret
  exact ⟨rfl, HA.out.low⟩
end Go.Proofs.Ytcnfchjiiglijaa
