/- The fixed calls of stage 8: that they answer true, and nothing that was there turns. -/
import Derived.Test.YtdhfnbajmjmlbaaKnowC
import Derived.Test.YtdhfnbajmjmlbaaKnowLs
namespace Go.Proofs.Ytdhfnbajmjmlbaa
open Go.RowKit
set_option linter.unusedVariables false
set_option linter.unusedSimpArgs false
set_option maxRecDepth 20000

theorem below_behind {w w' : World} {o : Obj} (hb : Below (w.alloc o).heap.size (w.alloc o) w') : Below w.heap.size w w' := ((Below.refl _ _).alloc (Nat.le_refl _) _).trans (hb.mono (by simp))
theorem below_alloc (w : World) (o : Obj) : Below w.heap.size w (w.alloc o) := (Below.refl _ _).alloc (Nat.le_refl _) _

set_option maxHeartbeats 4000000 in
set_option maxRecDepth 100000 in
theorem fixed_any (w : World) : Calls Try.prog 17 #[] w fun e w' => e = .returned (.bool true) ∧ Below w.heap.size w w' := by
  have gN := NoS.good w.heap.size
  go_enter Try.func17, Try.ntmps17
  go_wp2_with fail
  refine (Pair.new1 (base := w.heap.size) (w0 := w) rfl (Below.refl _ _) (by omega) (by omega)).mono ?_
  rintro e w1 ⟨g, rfl, h1⟩
  have H1 := Lib.hid h1
  clear h1
  go_wp2_with fail
  refine (H1.out.putP gN fy1 wy1 py1).mono ?_
  rintro e w2 ⟨rfl, h2, _⟩
  have H2 := Lib.hid h2
  clear h2 H1
  go_wp2_with fail
  refine (H2.out.putP gN fy2 wy2 py2).mono ?_
  rintro e w3 ⟨rfl, h3, _⟩
  have H3 := Lib.hid h3
  clear h3 H2
  go_wp2_with fail
  refine (H3.out.publicP gN k1 py3).mono ?_
  rintro e w4 ⟨rfl, h4, _⟩
  have H4 := Lib.hid h4
  clear h4 H3
  go_wp2_with fail
  refine (H4.out.publicP gN k2 py4).mono ?_
  rintro e w5 ⟨rfl, h5, _⟩
  have H5 := Lib.hid h5
  clear h5 H4
  go_wp2_with fail
  refine (H5.out.agreeP gN k1 py5).mono ?_
  rintro e w6 ⟨rfl, h6, _⟩
  have H6 := Lib.hid h6
  clear h6 H5
  have HK : Hid (Known w6 g L5) := Lib.hid (H6.out.known fine5)
  have HB6 : Hid (Below w.heap.size w w6) := Lib.hid H6.out.belowW
  have HIN : Hid (∀ x y : Int, 1 ≤ x ∧ x ≤ 5 → 1 ≤ y ∧ y ≤ 5 → ∀ z, z ∈ [x, y] → InL L5 z) := Lib.hid (fun x y hx hy z hz => by
    rcases (by simpa using hz : z = x ∨ z = y) with rfl | rfl
    · exact in5 hx.1 hx.2
    · exact in5 hy.1 hy.2)
  obtain ⟨C1, hC1⟩ := least_is HK.out.fit (HIN.out 3 4 (by omega) (by omega)) false false
  obtain ⟨C2, hC2⟩ := least_is HK.out.fit (HIN.out 3 4 (by omega) (by omega)) true false
  obtain ⟨C3, hC3⟩ := least_is HK.out.fit (HIN.out 1 4 (by omega) (by omega)) false false
  obtain ⟨C4, hC4⟩ := least_is HK.out.fit (HIN.out 2 3 (by omega) (by omega)) false false
  have HC1 := Lib.hid hC1
  have HC2 := Lib.hid hC2
  have HC3 := Lib.hid hC3
  have HC4 := Lib.hid hC4
  have HN1 : Hid (namesIn L5 C1 = [3, 4]) := Lib.hid (names_are hC1 [] (by simp) ns1.1 ns1.2)
  have HN2 : Hid (namesIn L5 C2 = [3, 4, 5]) := Lib.hid (names_are hC2 [5] (by intro x hx; rw [List.mem_singleton.1 hx]; exact in5 (by omega) (by omega)) ns2.1 ns2.2)
  have HN3 : Hid (namesIn L5 C3 = [1, 3, 4, 5]) := Lib.hid (names_are hC3 [3, 5] (by intro x hx; rcases (by simpa using hx : x = 3 ∨ x = 5) with rfl | rfl; exact in5 (by omega) (by omega); exact in5 (by omega) (by omega)) ns3.1 ns3.2)
  have HN4 : Hid (C4 5 = true) := Lib.hid (can_be hC4 [5] (by intro x hx; rw [List.mem_singleton.1 hx]; exact in5 (by omega) (by omega)) ns4)
  clear hC1 hC2 hC3 hC4 H6
  go_wp2_with fail
  refine (all_least (HK.out.below (below_alloc _ _)) HC1.out (HIN.out 3 4 (by omega) (by omega)) _ 2 2 rfl (lit2 _ 3 4)).mono ?_
  rintro e w7 ⟨a1, n1, c1, rfl, hn, ho, hb⟩
  have hb' : Below w6.heap.size w6 w7 := below_behind hb
  replace HB6 : Hid (Below w.heap.size w w7) := Lib.hid (HB6.out.trans (hb'.mono HB6.out.size))
  replace HK : Hid (Known w7 g L5) := Lib.hid (HK.out.below hb')
  rw [HN1.out] at hn ho
  obtain rfl : n1 = 2 := hn
  have HA1 : Hid (IntsAt w7 a1 c1 [3, 4]) := Lib.hid ho.ints.2
  clear ho
  clear hb hb'
  go_wp2_with fail
  refine (all_least (HK.out.below (below_alloc _ _)) HC2.out (HIN.out 3 4 (by omega) (by omega)) _ 2 2 rfl (lit2 _ 3 4)).mono ?_
  rintro e w8 ⟨a2, n2, c2, rfl, hn, ho, hb⟩
  have hb' : Below w7.heap.size w7 w8 := below_behind hb
  replace HB6 : Hid (Below w.heap.size w w8) := Lib.hid (HB6.out.trans (hb'.mono HB6.out.size))
  replace HK : Hid (Known w8 g L5) := Lib.hid (HK.out.below hb')
  replace HA1 := Lib.hid (HA1.out.below hb')
  rw [HN2.out] at hn ho
  obtain rfl : n2 = 3 := hn
  have HA2 : Hid (IntsAt w8 a2 c2 [3, 4, 5]) := Lib.hid ho.ints.2
  clear ho
  clear hb hb'
  go_wp2_with fail
  refine (all_least (HK.out.below (below_alloc _ _)) HC3.out (HIN.out 1 4 (by omega) (by omega)) _ 2 2 rfl (lit2 _ 1 4)).mono ?_
  rintro e w9 ⟨a3, n3, c3, rfl, hn, ho, hb⟩
  have hb' : Below w8.heap.size w8 w9 := below_behind hb
  replace HB6 : Hid (Below w.heap.size w w9) := Lib.hid (HB6.out.trans (hb'.mono HB6.out.size))
  replace HK : Hid (Known w9 g L5) := Lib.hid (HK.out.below hb')
  replace HA1 := Lib.hid (HA1.out.below hb')
  replace HA2 := Lib.hid (HA2.out.below hb')
  rw [HN3.out] at hn ho
  obtain rfl : n3 = 4 := hn
  have HA3 : Hid (IntsAt w9 a3 c3 [1, 3, 4, 5]) := Lib.hid ho.ints.2
  clear ho
  clear hb hb'
  go_wp2_with fail
  refine (all_bad (ks := [99]) (x := 99) (HK.out.below (below_alloc _ _)) false false (by simp) (by unfold InL L5; simp) _ 1 1 rfl (lit1 _ 99)).mono ?_
  rintro e w10 ⟨rfl, hb⟩
  have hb' : Below w9.heap.size w9 w10 := below_behind hb
  replace HB6 : Hid (Below w.heap.size w w10) := Lib.hid (HB6.out.trans (hb'.mono HB6.out.size))
  replace HK : Hid (Known w10 g L5) := Lib.hid (HK.out.below hb')
  replace HA1 := Lib.hid (HA1.out.below hb')
  replace HA2 := Lib.hid (HA2.out.below hb')
  replace HA3 := Lib.hid (HA3.out.below hb')
  clear hb hb'
  go_wp2_with fail
  refine (can_least (HK.out.below (below_alloc _ _)) HC4.out (HIN.out 2 3 (by omega) (by omega)) (in5 (by omega) (by omega)) _ 2 2 rfl (lit2 _ 2 3)).mono ?_
  rintro e w11 ⟨rfl, hb⟩
  have hb' : Below w10.heap.size w10 w11 := below_behind hb
  replace HB6 : Hid (Below w.heap.size w w11) := Lib.hid (HB6.out.trans (hb'.mono HB6.out.size))
  replace HK : Hid (Known w11 g L5) := Lib.hid (HK.out.below hb')
  replace HA1 := Lib.hid (HA1.out.below hb')
  replace HA2 := Lib.hid (HA2.out.below hb')
  replace HA3 := Lib.hid (HA3.out.below hb')
  rw [HN4.out]
  clear hb hb'
  go_wp2_with fail
  refine (can_none (ks := []) (name := 99) HK.out false false (by simp) (by unfold InL L5; simp) _ 0 0 rfl (IntsAt.none _)).mono ?_
  rintro e w12 ⟨rfl, hb⟩
  have hb' : Below w11.heap.size w11 w12 := hb
  replace HB6 : Hid (Below w.heap.size w w12) := Lib.hid (HB6.out.trans (hb'.mono HB6.out.size))
  replace HK : Hid (Known w12 g L5) := Lib.hid (HK.out.below hb')
  replace HA1 := Lib.hid (HA1.out.below hb')
  replace HA2 := Lib.hid (HA2.out.below hb')
  replace HA3 := Lib.hid (HA3.out.below hb')
  clear hb hb'
  go_wp2_with fail
  refine (same_k a1 _ c1 2 [3, 4] [3, 4] _ (HA1.out.below (below_alloc _ _)) (lit2 _ 3 4)).mono ?_
  rintro e w13 ⟨rfl, q1, hq⟩
  have hb' : Below w12.heap.size w12 w13 := by rw [hq]; exact (below_alloc _ _).trans ((drewN_below _ q1).mono (by simp))
  replace HB6 : Hid (Below w.heap.size w w13) := Lib.hid (HB6.out.trans (hb'.mono HB6.out.size))
  replace HA1 := Lib.hid (HA1.out.below hb')
  replace HA2 := Lib.hid (HA2.out.below hb')
  replace HA3 := Lib.hid (HA3.out.below hb')
  rw [show decide (([3, 4] : List Int) = [3, 4]) = true from decide_eq_true rfl]
  clear hq hb'
  go_wp2_with fail
  refine (same_k a2 _ c2 3 [3, 4, 5] [3, 4, 5] _ (HA2.out.below (below_alloc _ _)) (lit3 _ 3 4 5)).mono ?_
  rintro e w14 ⟨rfl, q2, hq⟩
  have hb' : Below w13.heap.size w13 w14 := by rw [hq]; exact (below_alloc _ _).trans ((drewN_below _ q2).mono (by simp))
  replace HB6 : Hid (Below w.heap.size w w14) := Lib.hid (HB6.out.trans (hb'.mono HB6.out.size))
  replace HA1 := Lib.hid (HA1.out.below hb')
  replace HA2 := Lib.hid (HA2.out.below hb')
  replace HA3 := Lib.hid (HA3.out.below hb')
  rw [show decide (([3, 4, 5] : List Int) = [3, 4, 5]) = true from decide_eq_true rfl]
  clear hq hb'
  go_wp2_with fail
  refine (same_k a3 _ c3 4 [1, 3, 4, 5] [1, 3, 4, 5] _ (HA3.out.below (below_alloc _ _)) (lit4 _ 1 3 4 5)).mono ?_
  rintro e w15 ⟨rfl, q3, hq⟩
  have hb' : Below w14.heap.size w14 w15 := by rw [hq]; exact (below_alloc _ _).trans ((drewN_below _ q3).mono (by simp))
  replace HB6 : Hid (Below w.heap.size w w15) := Lib.hid (HB6.out.trans (hb'.mono HB6.out.size))
  replace HA1 := Lib.hid (HA1.out.below hb')
  replace HA2 := Lib.hid (HA2.out.below hb')
  replace HA3 := Lib.hid (HA3.out.below hb')
  rw [show decide (([1, 3, 4, 5] : List Int) = [1, 3, 4, 5]) = true from decide_eq_true rfl]
  clear hq hb'
  go_wp2_with fail
  go_ret
  exact ⟨rfl, HB6.out⟩
end Go.Proofs.Ytdhfnbajmjmlbaa
