/- What a talk seals, opens and splits (by tools/stage17/talk.py). -/
import Derived.Test.YtgeonppckeiceaaGreatDoorGp25
import Derived.Deep.RegionHeld3
namespace Go.Proofs.YtgeonppckeiceaaGreatDoor
open Go.RowKit
set_option linter.unusedVariables false
set_option linter.unusedSimpArgs false
set_option maxRecDepth 20000
section
variable {base g B : Nat} {most : Int} {Q2 : (Nat → Prop) → List Tm → World → Prop} {L L' L2 : List Tm} {bs : List (Nat × Obj)} {T : TypeId} {y y' : Sy} {rest : List Value} {w0 w w' : World}
set_option maxHeartbeats 600000 in
theorem tk_seal (g2 : Good base Q2) (h : Tk base g most Q2 L L2 bs B T y rest w0 w) {x : Int} (hx : I64 x) :
    Calls Tryz.prog 121 #[.pointer (some ⟨B, 0, none⟩), .int .i64 x] w (Gp (sealG y x most L) (fun r => .int .i64 r.2) (fun L' x w' => Tk base g most Q2 L' L2 bs B T x.1 rest w0 w') (fun L' w' => Cs base (PSq base g most) Q2 L' L2 bs w0 w')) := by
  obtain ⟨z, c, e, L1, hf⟩ : ∃ z c e L1, sealF L most y x = (z, c, e, L1) := ⟨_, _, _, _, rfl⟩
  have HSD := Lib.hid (seal_sd h.cs.sound hf)
  have hfa := h.facts
  have HF := Lib.hid hf
  have HX := Lib.hid hx
  by_cases he : e = 0
  · subst he
    have HG : Hid (sealG y x most L = (.ok (z, c), L1)) := Lib.hid (by unfold sealG; rw [hf]; rfl)
    have HW := Lib.hid ((sealY_wf hfa.2.1 hfa.2.2 hfa.1 h.wf hf).1)
    have HT := Lib.hid h
    clear h hf hfa hx
    go_enter Tryz.func121, Tryz.ntmps121
    replace HT := Lib.hid (HT.out.drew g2)
    go_wp2_with fail
    refine wp_region_held_drew (S := (fun W => W.cell? ⟨B, 0, none⟩ = some (.pointer (some ⟨g, 0, none⟩)) ∧ W.cell? ⟨B, 1, none⟩ = some (.int .i64 y.CK) ∧ W.cell? ⟨B, 2, none⟩ = some (.int .i64 y.K) ∧ W.cell? ⟨B, 3, none⟩ = some (.int .i64 y.H) ∧ W.cell? ⟨B, 4, none⟩ = some (.int .u64 y.N))) (by kernel_rfl) (⟨HT.out.c0, HT.out.c1, HT.out.c2, HT.out.c3, HT.out.c4⟩) (fun hHeld => ?_)
    refine tk1 0 (oi := ?o89) (v := ?v89) ?i89 ?w89 ?y89 ?r89
    case' i89 => simp only [g1, g2, g3]
    case i89 => rfl
    case w89 => kernel_rfl
    case y89 => (intro W hSw; go_simp) <;> with_reducible rfl
    try simp only [Act.put, p1, p2, p3]
    refine tk1 1 (oi := ?o90) (v := ?v90) ?i90 ?w90 ?y90 ?r90
    case' i90 => simp only [g1, g2, g3]
    case i90 => rfl
    case w90 => kernel_rfl
    case y90 => (intro W hSw; go_simp) <;> with_reducible rfl
    try simp only [Act.put, p1, p2, p3]
    refine tk1 2 (oi := ?o91) (v := ?v91) ?i91 ?w91 ?y91 ?r91
    case' i91 => simp only [g1, g2, g3]
    case i91 => rfl
    case w91 => kernel_rfl
    case y91 => (intro W hSw; go_simp) <;> with_reducible rfl
    try simp only [Act.put, p1, p2, p3]
    refine tk1 3 (oi := ?o92) (v := ?v92) ?i92 ?w92 ?y92 ?r92
    case' i92 => simp only [g1, g2, g3]
    case i92 => rfl
    case w92 => kernel_rfl
    case y92 => (intro W hSw; obtain ⟨q0, q1, q2, q3, q4⟩ := hSw; go_simp) <;> with_reducible rfl
    try simp only [Act.put, p1, p2, p3]
    refine tk1 4 (oi := ?o93) (v := ?v93) ?i93 ?w93 ?y93 ?r93
    case' i93 => simp only [g1, g2, g3]
    case i93 => rfl
    case w93 => kernel_rfl
    case y93 => (intro W hSw; go_simp) <;> with_reducible rfl
    try simp only [Act.put, p1, p2, p3]
    refine tk1 5 (oi := ?o94) (v := ?v94) ?i94 ?w94 ?y94 ?r94
    case' i94 => simp only [g1, g2, g3]
    case i94 => rfl
    case w94 => kernel_rfl
    case y94 => (intro W hSw; go_simp) <;> with_reducible rfl
    try simp only [Act.put, p1, p2, p3]
    refine tk1 6 (oi := ?o95) (v := ?v95) ?i95 ?w95 ?y95 ?r95
    case' i95 => simp only [g1, g2, g3]
    case i95 => rfl
    case w95 => kernel_rfl
    case y95 => (intro W hSw; go_simp) <;> with_reducible rfl
    try simp only [Act.put, p1, p2, p3]
    refine tk1 7 (oi := ?o96) (v := ?v96) ?i96 ?w96 ?y96 ?r96
    case' i96 => simp only [g1, g2, g3]
    case i96 => rfl
    case w96 => kernel_rfl
    case y96 => (intro W hSw; obtain ⟨q0, q1, q2, q3, q4⟩ := hSw; go_simp) <;> with_reducible rfl
    try simp only [Act.put, p1, p2, p3]
    refine tk1 8 (oi := ?o97) (v := ?v97) ?i97 ?w97 ?y97 ?r97
    case' i97 => simp only [g1, g2, g3]
    case i97 => rfl
    case w97 => kernel_rfl
    case y97 => (intro W hSw; go_simp) <;> with_reducible rfl
    try simp only [Act.put, p1, p2, p3]
    refine wpAnyH_ready (rs := [9, 14]) (by kernel_rfl) (by simp) ?_
    refine (AllReadyH.cons (o := ?o98_0) ?i98_0 (fun K' hK => ?g98_0) (AllReadyH.cons (o := ?o98_1) ?i98_1 (fun K' hK => ?g98_1) AllReadyH.nil))
    case' i98_0 => simp only [g1, g2, g3]
    case i98_0 => rfl
    case' i98_1 => simp only [g1, g2, g3]
    case i98_1 => rfl
    case g98_0 =>
      go_simp
      go_at_call 172
      refine (HT.out.cs.pair.ysealP g2 HT.out.wf HX.out HF.out).mono ?_
      rintro e' w1 ⟨rfl, hp, hk⟩
      replace HT := Lib.hid (HT.out.step hp hk HSD.out)
      clear hp hk
      simp only [Sy.v]
      go_wp2_with fail
      refine hK.out _ _ (⟨HT.out.c0, HT.out.c1, HT.out.c2, HT.out.c3, HT.out.c4⟩) (fun hHeld => ?_)
      clear hK K'
      try simp only [Act.put, p1, p2, p3]
      refine tk1 10 (oi := ?o99) (v := ?v99) ?i99 ?w99 ?y99 ?r99
      case' i99 => simp only [g1, g2, g3]
      case i99 => rfl
      case w99 => kernel_rfl
      case y99 => (intro W hSw; go_simp) <;> with_reducible rfl
      try simp only [Act.put, p1, p2, p3]
      refine tk1 11 (oi := ?o100) (v := ?v100) ?i100 ?w100 ?y100 ?r100
      case' i100 => simp only [g1, g2, g3]
      case i100 => rfl
      case w100 => kernel_rfl
      case y100 => (intro W hSw; go_simp) <;> with_reducible rfl
      try simp only [Act.put, p1, p2, p3]
      refine tk1 12 (oi := ?o101) (v := ?v101) ?i101 ?w101 ?y101 ?r101
      case' i101 => simp only [g1, g2, g3]
      case i101 => rfl
      case w101 => kernel_rfl
      case y101 => (intro W hSw; go_simp) <;> with_reducible rfl
      try simp only [Act.put, p1, p2, p3]
      refine tk1 13 (oi := ?o102) (v := ?v102) ?i102 ?w102 ?y102 ?r102
      case' i102 => simp only [g1, g2, g3]
      case i102 => rfl
      case w102 => kernel_rfl
      case y102 => (intro W hSw; go_simp) <;> with_reducible rfl
      try simp only [Act.put, p1, p2, p3]
      refine wpAnyH_ready (rs := [14]) (by kernel_rfl) (by simp) ?_
      refine (AllReadyH.cons (o := ?o103_0) ?i103_0 (fun K' hK => ?g103_0) AllReadyH.nil)
      case' i103_0 => simp only [g1, g2, g3]
      case i103_0 => rfl
      have HT0 := HT
      go_simp
      obtain ⟨hbx, hbn⟩ := HT.out.box g2 #[.int .i64 0, .int .i64 0, .int .i64 0, .int .u64 0] 45 (b := w1.heap.size) (by first | rfl | simp)
      replace HT := Lib.hid hbx
      have HN := Lib.hid hbn
      clear hbx hbn
      refine hK.out _ _ (⟨HT.out.c0, HT.out.c1, HT.out.c2, HT.out.c3, HT.out.c4⟩) (fun hHeld => ?_)
      clear hK K'
      try simp only [Act.put, p1, p2, p3]
      refine wpAnyH_ready (rs := [15]) (by kernel_rfl) (by simp) ?_
      refine (AllReadyH.cons (o := ?o104_0) ?i104_0 (fun K' hK => ?g104_0) AllReadyH.nil)
      case' i104_0 => simp only [g1, g2, g3]
      case i104_0 => rfl
      go_simp
      obtain ⟨hbx, hbn⟩ := HT0.out.box g2 #[.int .i64 z.CK, .int .i64 z.K, .int .i64 z.H, .int .u64 z.N] 45 (b := w1.heap.size) rfl
      replace HT := Lib.hid hbx.unbox0
      have HR := Lib.hid (hbx.cs.kept _ _ (List.mem_cons_of_mem _ List.mem_cons_self))
      clear hbx hbn HT0
      refine hK.out _ _ (⟨HT.out.c0, HT.out.c1, HT.out.c2, HT.out.c3, HT.out.c4⟩) (fun hHeld => ?_)
      clear hK K'
      try simp only [Act.put, p1, p2, p3]
      refine tk1 16 (oi := ?o105) (v := ?v105) ?i105 ?w105 ?y105 ?r105
      case' i105 => simp only [g1, g2, g3]
      case i105 => rfl
      case w105 => kernel_rfl
      case y105 => (intro W hSw; go_simp) <;> with_reducible rfl
      try simp only [Act.put, p1, p2, p3]
      refine tk1 17 (oi := ?o106) (v := ?v106) ?i106 ?w106 ?y106 ?r106
      case' i106 => simp only [g1, g2, g3]
      case i106 => rfl
      case w106 => kernel_rfl
      case y106 => (intro W hSw; go_simp) <;> with_reducible rfl
      try simp only [Act.put, p1, p2, p3]
      refine wpAnyH_done (by kernel_rfl) ?_ _
      generalize hWx : World.alloc _ _ = Wx at HT HR ⊢
      clear hWx
      have r0 := cell_of_row Wx _ 0 _ _ _ HR.out
      have r1 := cell_of_row Wx _ 1 _ _ _ HR.out
      have r2 := cell_of_row Wx _ 2 _ _ _ HR.out
      have r3 := cell_of_row Wx _ 3 _ _ _ HR.out
      simp at r0 r1 r2 r3
      have d0 := HT.out.c0
      have d1 := HT.out.c1
      have d2 := HT.out.c2
      have d3 := HT.out.c3
      have d4 := HT.out.c4
      have f1 := HT.out.fz 1
      have f2 := HT.out.fz 2
      have f3 := HT.out.fz 3
      have f4 := HT.out.fz 4
      go_wp2_with fail
      refine (must_yes _).mono ?_
      rintro e' w2 ⟨rfl, rfl⟩
      go_wp2_with fail
      go_ret
      exact .inl ⟨_, _, HG.out, rfl, HT.out.put4 g2 HW.out⟩
    case g98_1 =>
      go_simp
      obtain ⟨hbx, hbn⟩ := HT.out.box g2 #[.int .i64 0, .int .i64 0, .int .i64 0, .int .u64 0] 45 (b := w.heap.size) (by first | rfl | simp)
      replace HT := Lib.hid hbx
      have HN := Lib.hid hbn
      clear hbx hbn
      refine hK.out _ _ (⟨HT.out.c0, HT.out.c1, HT.out.c2, HT.out.c3, HT.out.c4⟩) (fun hHeld => ?_)
      clear hK K'
      try simp only [Act.put, p1, p2, p3]
      refine wpAnyH_ready (rs := [9]) (by kernel_rfl) (by simp) ?_
      refine (AllReadyH.cons (o := ?o107_0) ?i107_0 (fun K' hK => ?g107_0) AllReadyH.nil)
      case' i107_0 => simp only [g1, g2, g3]
      case i107_0 => rfl
      go_simp
      go_at_call 172
      refine (HT.out.cs.pair.ysealP g2 HT.out.wf HX.out HF.out).mono ?_
      rintro e' w1 ⟨rfl, hp, hk⟩
      replace HT := Lib.hid (HT.out.step hp hk HSD.out)
      clear hp hk
      simp only [Sy.v]
      go_wp2_with fail
      refine hK.out _ _ (⟨HT.out.c0, HT.out.c1, HT.out.c2, HT.out.c3, HT.out.c4⟩) (fun hHeld => ?_)
      clear hK K'
      try simp only [Act.put, p1, p2, p3]
      refine tk1 10 (oi := ?o108) (v := ?v108) ?i108 ?w108 ?y108 ?r108
      case' i108 => simp only [g1, g2, g3]
      case i108 => rfl
      case w108 => kernel_rfl
      case y108 => (intro W hSw; go_simp) <;> with_reducible rfl
      try simp only [Act.put, p1, p2, p3]
      refine tk1 11 (oi := ?o109) (v := ?v109) ?i109 ?w109 ?y109 ?r109
      case' i109 => simp only [g1, g2, g3]
      case i109 => rfl
      case w109 => kernel_rfl
      case y109 => (intro W hSw; go_simp) <;> with_reducible rfl
      try simp only [Act.put, p1, p2, p3]
      refine tk1 12 (oi := ?o110) (v := ?v110) ?i110 ?w110 ?y110 ?r110
      case' i110 => simp only [g1, g2, g3]
      case i110 => rfl
      case w110 => kernel_rfl
      case y110 => (intro W hSw; go_simp) <;> with_reducible rfl
      try simp only [Act.put, p1, p2, p3]
      refine tk1 13 (oi := ?o111) (v := ?v111) ?i111 ?w111 ?y111 ?r111
      case' i111 => simp only [g1, g2, g3]
      case i111 => rfl
      case w111 => kernel_rfl
      case y111 => (intro W hSw; go_simp) <;> with_reducible rfl
      try simp only [Act.put, p1, p2, p3]
      refine wpAnyH_ready (rs := [15]) (by kernel_rfl) (by simp) ?_
      refine (AllReadyH.cons (o := ?o112_0) ?i112_0 (fun K' hK => ?g112_0) AllReadyH.nil)
      case' i112_0 => simp only [g1, g2, g3]
      case i112_0 => rfl
      obtain ⟨b0, bf0⟩ := HT.out.boxc (List.mem_cons_self) 0 rfl
      obtain ⟨b1, bf1⟩ := HT.out.boxc (List.mem_cons_self) 1 rfl
      obtain ⟨b2, bf2⟩ := HT.out.boxc (List.mem_cons_self) 2 rfl
      obtain ⟨b3, bf3⟩ := HT.out.boxc (List.mem_cons_self) 3 rfl
      go_simp
      obtain ⟨hbx, hbr⟩ := HT.out.unbox4 g2 HN.out (.int .i64 z.CK) (.int .i64 z.K) (.int .i64 z.H) (.int .u64 z.N)
      replace HT := Lib.hid hbx
      have HR := Lib.hid hbr
      clear hbx hbr b0 b1 b2 b3 bf0 bf1 bf2 bf3
      refine hK.out _ _ (⟨HT.out.c0, HT.out.c1, HT.out.c2, HT.out.c3, HT.out.c4⟩) (fun hHeld => ?_)
      clear hK K'
      try simp only [Act.put, p1, p2, p3]
      refine tk1 16 (oi := ?o113) (v := ?v113) ?i113 ?w113 ?y113 ?r113
      case' i113 => simp only [g1, g2, g3]
      case i113 => rfl
      case w113 => kernel_rfl
      case y113 => (intro W hSw; go_simp) <;> with_reducible rfl
      try simp only [Act.put, p1, p2, p3]
      refine tk1 17 (oi := ?o114) (v := ?v114) ?i114 ?w114 ?y114 ?r114
      case' i114 => simp only [g1, g2, g3]
      case i114 => rfl
      case w114 => kernel_rfl
      case y114 => (intro W hSw; go_simp) <;> with_reducible rfl
      try simp only [Act.put, p1, p2, p3]
      refine wpAnyH_done (by kernel_rfl) ?_ _
      generalize hWx : World.setCell _ _ _ = Wx at HT HR ⊢
      clear hWx
      have r0 := cell_of_row Wx _ 0 _ _ _ HR.out
      have r1 := cell_of_row Wx _ 1 _ _ _ HR.out
      have r2 := cell_of_row Wx _ 2 _ _ _ HR.out
      have r3 := cell_of_row Wx _ 3 _ _ _ HR.out
      simp at r0 r1 r2 r3
      have d0 := HT.out.c0
      have d1 := HT.out.c1
      have d2 := HT.out.c2
      have d3 := HT.out.c3
      have d4 := HT.out.c4
      have f1 := HT.out.fz 1
      have f2 := HT.out.fz 2
      have f3 := HT.out.fz 3
      have f4 := HT.out.fz 4
      go_wp2_with fail
      refine (must_yes _).mono ?_
      rintro e' w2 ⟨rfl, rfl⟩
      go_wp2_with fail
      go_ret
      exact .inl ⟨_, _, HG.out, rfl, HT.out.put4 g2 HW.out⟩
  · have HG : Hid (sealG y x most L = (.error e, L1)) := Lib.hid (by unfold sealG; rw [hf]; exact congrArg (fun r => (r, L1)) (if_neg he))
    have HE := Lib.hid he
    have HT := Lib.hid h
    clear h hf hfa he hx
    go_enter Tryz.func121, Tryz.ntmps121
    replace HT := Lib.hid (HT.out.drew g2)
    go_wp2_with fail
    refine wp_region_held_drew (S := (fun W => W.cell? ⟨B, 0, none⟩ = some (.pointer (some ⟨g, 0, none⟩)) ∧ W.cell? ⟨B, 1, none⟩ = some (.int .i64 y.CK) ∧ W.cell? ⟨B, 2, none⟩ = some (.int .i64 y.K) ∧ W.cell? ⟨B, 3, none⟩ = some (.int .i64 y.H) ∧ W.cell? ⟨B, 4, none⟩ = some (.int .u64 y.N))) (by kernel_rfl) (⟨HT.out.c0, HT.out.c1, HT.out.c2, HT.out.c3, HT.out.c4⟩) (fun hHeld => ?_)
    refine tk1 0 (oi := ?o115) (v := ?v115) ?i115 ?w115 ?y115 ?r115
    case' i115 => simp only [g1, g2, g3]
    case i115 => rfl
    case w115 => kernel_rfl
    case y115 => (intro W hSw; go_simp) <;> with_reducible rfl
    try simp only [Act.put, p1, p2, p3]
    refine tk1 1 (oi := ?o116) (v := ?v116) ?i116 ?w116 ?y116 ?r116
    case' i116 => simp only [g1, g2, g3]
    case i116 => rfl
    case w116 => kernel_rfl
    case y116 => (intro W hSw; go_simp) <;> with_reducible rfl
    try simp only [Act.put, p1, p2, p3]
    refine tk1 2 (oi := ?o117) (v := ?v117) ?i117 ?w117 ?y117 ?r117
    case' i117 => simp only [g1, g2, g3]
    case i117 => rfl
    case w117 => kernel_rfl
    case y117 => (intro W hSw; go_simp) <;> with_reducible rfl
    try simp only [Act.put, p1, p2, p3]
    refine tk1 3 (oi := ?o118) (v := ?v118) ?i118 ?w118 ?y118 ?r118
    case' i118 => simp only [g1, g2, g3]
    case i118 => rfl
    case w118 => kernel_rfl
    case y118 => (intro W hSw; obtain ⟨q0, q1, q2, q3, q4⟩ := hSw; go_simp) <;> with_reducible rfl
    try simp only [Act.put, p1, p2, p3]
    refine tk1 4 (oi := ?o119) (v := ?v119) ?i119 ?w119 ?y119 ?r119
    case' i119 => simp only [g1, g2, g3]
    case i119 => rfl
    case w119 => kernel_rfl
    case y119 => (intro W hSw; go_simp) <;> with_reducible rfl
    try simp only [Act.put, p1, p2, p3]
    refine tk1 5 (oi := ?o120) (v := ?v120) ?i120 ?w120 ?y120 ?r120
    case' i120 => simp only [g1, g2, g3]
    case i120 => rfl
    case w120 => kernel_rfl
    case y120 => (intro W hSw; go_simp) <;> with_reducible rfl
    try simp only [Act.put, p1, p2, p3]
    refine tk1 6 (oi := ?o121) (v := ?v121) ?i121 ?w121 ?y121 ?r121
    case' i121 => simp only [g1, g2, g3]
    case i121 => rfl
    case w121 => kernel_rfl
    case y121 => (intro W hSw; go_simp) <;> with_reducible rfl
    try simp only [Act.put, p1, p2, p3]
    refine tk1 7 (oi := ?o122) (v := ?v122) ?i122 ?w122 ?y122 ?r122
    case' i122 => simp only [g1, g2, g3]
    case i122 => rfl
    case w122 => kernel_rfl
    case y122 => (intro W hSw; obtain ⟨q0, q1, q2, q3, q4⟩ := hSw; go_simp) <;> with_reducible rfl
    try simp only [Act.put, p1, p2, p3]
    refine tk1 8 (oi := ?o123) (v := ?v123) ?i123 ?w123 ?y123 ?r123
    case' i123 => simp only [g1, g2, g3]
    case i123 => rfl
    case w123 => kernel_rfl
    case y123 => (intro W hSw; go_simp) <;> with_reducible rfl
    try simp only [Act.put, p1, p2, p3]
    refine wpAnyH_ready (rs := [9, 14]) (by kernel_rfl) (by simp) ?_
    refine (AllReadyH.cons (o := ?o124_0) ?i124_0 (fun K' hK => ?g124_0) (AllReadyH.cons (o := ?o124_1) ?i124_1 (fun K' hK => ?g124_1) AllReadyH.nil))
    case' i124_0 => simp only [g1, g2, g3]
    case i124_0 => rfl
    case' i124_1 => simp only [g1, g2, g3]
    case i124_1 => rfl
    case g124_0 =>
      go_simp
      go_at_call 172
      refine (HT.out.cs.pair.ysealP g2 HT.out.wf HX.out HF.out).mono ?_
      rintro e' w1 ⟨rfl, hp, hk⟩
      replace HT := Lib.hid (HT.out.step hp hk HSD.out)
      clear hp hk
      simp only [Sy.v]
      go_wp2_with fail
      refine hK.out _ _ (⟨HT.out.c0, HT.out.c1, HT.out.c2, HT.out.c3, HT.out.c4⟩) (fun hHeld => ?_)
      clear hK K'
      try simp only [Act.put, p1, p2, p3]
      refine tk1 10 (oi := ?o125) (v := ?v125) ?i125 ?w125 ?y125 ?r125
      case' i125 => simp only [g1, g2, g3]
      case i125 => rfl
      case w125 => kernel_rfl
      case y125 => (intro W hSw; go_simp) <;> with_reducible rfl
      try simp only [Act.put, p1, p2, p3]
      refine tk1 11 (oi := ?o126) (v := ?v126) ?i126 ?w126 ?y126 ?r126
      case' i126 => simp only [g1, g2, g3]
      case i126 => rfl
      case w126 => kernel_rfl
      case y126 => (intro W hSw; go_simp) <;> with_reducible rfl
      try simp only [Act.put, p1, p2, p3]
      refine tk1 12 (oi := ?o127) (v := ?v127) ?i127 ?w127 ?y127 ?r127
      case' i127 => simp only [g1, g2, g3]
      case i127 => rfl
      case w127 => kernel_rfl
      case y127 => (intro W hSw; go_simp) <;> with_reducible rfl
      try simp only [Act.put, p1, p2, p3]
      refine tk1 13 (oi := ?o128) (v := ?v128) ?i128 ?w128 ?y128 ?r128
      case' i128 => simp only [g1, g2, g3]
      case i128 => rfl
      case w128 => kernel_rfl
      case y128 => (intro W hSw; go_simp) <;> with_reducible rfl
      try simp only [Act.put, p1, p2, p3]
      refine wpAnyH_ready (rs := [14]) (by kernel_rfl) (by simp) ?_
      refine (AllReadyH.cons (o := ?o129_0) ?i129_0 (fun K' hK => ?g129_0) AllReadyH.nil)
      case' i129_0 => simp only [g1, g2, g3]
      case i129_0 => rfl
      have HT0 := HT
      go_simp
      obtain ⟨hbx, hbn⟩ := HT.out.box g2 #[.int .i64 0, .int .i64 0, .int .i64 0, .int .u64 0] 45 (b := w1.heap.size) (by first | rfl | simp)
      replace HT := Lib.hid hbx
      have HN := Lib.hid hbn
      clear hbx hbn
      refine hK.out _ _ (⟨HT.out.c0, HT.out.c1, HT.out.c2, HT.out.c3, HT.out.c4⟩) (fun hHeld => ?_)
      clear hK K'
      try simp only [Act.put, p1, p2, p3]
      refine wpAnyH_ready (rs := [15]) (by kernel_rfl) (by simp) ?_
      refine (AllReadyH.cons (o := ?o130_0) ?i130_0 (fun K' hK => ?g130_0) AllReadyH.nil)
      case' i130_0 => simp only [g1, g2, g3]
      case i130_0 => rfl
      go_simp
      obtain ⟨hbx, hbn⟩ := HT0.out.box g2 #[.int .i64 z.CK, .int .i64 z.K, .int .i64 z.H, .int .u64 z.N] 45 (b := w1.heap.size) rfl
      replace HT := Lib.hid hbx.unbox0
      have HR := Lib.hid (hbx.cs.kept _ _ (List.mem_cons_of_mem _ List.mem_cons_self))
      clear hbx hbn HT0
      refine hK.out _ _ (⟨HT.out.c0, HT.out.c1, HT.out.c2, HT.out.c3, HT.out.c4⟩) (fun hHeld => ?_)
      clear hK K'
      try simp only [Act.put, p1, p2, p3]
      refine tk1 16 (oi := ?o131) (v := ?v131) ?i131 ?w131 ?y131 ?r131
      case' i131 => simp only [g1, g2, g3]
      case i131 => rfl
      case w131 => kernel_rfl
      case y131 => (intro W hSw; go_simp) <;> with_reducible rfl
      try simp only [Act.put, p1, p2, p3]
      refine tk1 17 (oi := ?o132) (v := ?v132) ?i132 ?w132 ?y132 ?r132
      case' i132 => simp only [g1, g2, g3]
      case i132 => rfl
      case w132 => kernel_rfl
      case y132 => (intro W hSw; go_simp) <;> with_reducible rfl
      try simp only [Act.put, p1, p2, p3]
      refine wpAnyH_done (by kernel_rfl) ?_ _
      go_wp2_with fail
      refine (must_no _ HE.out _).mono ?_
      rintro e' w2 ⟨rfl, rfl⟩
      unfold Fell
      go_wp2_with fail
      exact ⟨rfl, .inr ⟨_, _, HG.out, HE.out, rfl, HT.out.fall⟩⟩
    case g124_1 =>
      go_simp
      obtain ⟨hbx, hbn⟩ := HT.out.box g2 #[.int .i64 0, .int .i64 0, .int .i64 0, .int .u64 0] 45 (b := w.heap.size) (by first | rfl | simp)
      replace HT := Lib.hid hbx
      have HN := Lib.hid hbn
      clear hbx hbn
      refine hK.out _ _ (⟨HT.out.c0, HT.out.c1, HT.out.c2, HT.out.c3, HT.out.c4⟩) (fun hHeld => ?_)
      clear hK K'
      try simp only [Act.put, p1, p2, p3]
      refine wpAnyH_ready (rs := [9]) (by kernel_rfl) (by simp) ?_
      refine (AllReadyH.cons (o := ?o133_0) ?i133_0 (fun K' hK => ?g133_0) AllReadyH.nil)
      case' i133_0 => simp only [g1, g2, g3]
      case i133_0 => rfl
      go_simp
      go_at_call 172
      refine (HT.out.cs.pair.ysealP g2 HT.out.wf HX.out HF.out).mono ?_
      rintro e' w1 ⟨rfl, hp, hk⟩
      replace HT := Lib.hid (HT.out.step hp hk HSD.out)
      clear hp hk
      simp only [Sy.v]
      go_wp2_with fail
      refine hK.out _ _ (⟨HT.out.c0, HT.out.c1, HT.out.c2, HT.out.c3, HT.out.c4⟩) (fun hHeld => ?_)
      clear hK K'
      try simp only [Act.put, p1, p2, p3]
      refine tk1 10 (oi := ?o134) (v := ?v134) ?i134 ?w134 ?y134 ?r134
      case' i134 => simp only [g1, g2, g3]
      case i134 => rfl
      case w134 => kernel_rfl
      case y134 => (intro W hSw; go_simp) <;> with_reducible rfl
      try simp only [Act.put, p1, p2, p3]
      refine tk1 11 (oi := ?o135) (v := ?v135) ?i135 ?w135 ?y135 ?r135
      case' i135 => simp only [g1, g2, g3]
      case i135 => rfl
      case w135 => kernel_rfl
      case y135 => (intro W hSw; go_simp) <;> with_reducible rfl
      try simp only [Act.put, p1, p2, p3]
      refine tk1 12 (oi := ?o136) (v := ?v136) ?i136 ?w136 ?y136 ?r136
      case' i136 => simp only [g1, g2, g3]
      case i136 => rfl
      case w136 => kernel_rfl
      case y136 => (intro W hSw; go_simp) <;> with_reducible rfl
      try simp only [Act.put, p1, p2, p3]
      refine tk1 13 (oi := ?o137) (v := ?v137) ?i137 ?w137 ?y137 ?r137
      case' i137 => simp only [g1, g2, g3]
      case i137 => rfl
      case w137 => kernel_rfl
      case y137 => (intro W hSw; go_simp) <;> with_reducible rfl
      try simp only [Act.put, p1, p2, p3]
      refine wpAnyH_ready (rs := [15]) (by kernel_rfl) (by simp) ?_
      refine (AllReadyH.cons (o := ?o138_0) ?i138_0 (fun K' hK => ?g138_0) AllReadyH.nil)
      case' i138_0 => simp only [g1, g2, g3]
      case i138_0 => rfl
      obtain ⟨b0, bf0⟩ := HT.out.boxc (List.mem_cons_self) 0 rfl
      obtain ⟨b1, bf1⟩ := HT.out.boxc (List.mem_cons_self) 1 rfl
      obtain ⟨b2, bf2⟩ := HT.out.boxc (List.mem_cons_self) 2 rfl
      obtain ⟨b3, bf3⟩ := HT.out.boxc (List.mem_cons_self) 3 rfl
      go_simp
      obtain ⟨hbx, hbr⟩ := HT.out.unbox4 g2 HN.out (.int .i64 z.CK) (.int .i64 z.K) (.int .i64 z.H) (.int .u64 z.N)
      replace HT := Lib.hid hbx
      have HR := Lib.hid hbr
      clear hbx hbr b0 b1 b2 b3 bf0 bf1 bf2 bf3
      refine hK.out _ _ (⟨HT.out.c0, HT.out.c1, HT.out.c2, HT.out.c3, HT.out.c4⟩) (fun hHeld => ?_)
      clear hK K'
      try simp only [Act.put, p1, p2, p3]
      refine tk1 16 (oi := ?o139) (v := ?v139) ?i139 ?w139 ?y139 ?r139
      case' i139 => simp only [g1, g2, g3]
      case i139 => rfl
      case w139 => kernel_rfl
      case y139 => (intro W hSw; go_simp) <;> with_reducible rfl
      try simp only [Act.put, p1, p2, p3]
      refine tk1 17 (oi := ?o140) (v := ?v140) ?i140 ?w140 ?y140 ?r140
      case' i140 => simp only [g1, g2, g3]
      case i140 => rfl
      case w140 => kernel_rfl
      case y140 => (intro W hSw; go_simp) <;> with_reducible rfl
      try simp only [Act.put, p1, p2, p3]
      refine wpAnyH_done (by kernel_rfl) ?_ _
      go_wp2_with fail
      refine (must_no _ HE.out _).mono ?_
      rintro e' w2 ⟨rfl, rfl⟩
      unfold Fell
      go_wp2_with fail
      exact ⟨rfl, .inr ⟨_, _, HG.out, HE.out, rfl, HT.out.fall⟩⟩
set_option maxHeartbeats 600000 in
theorem tk_open (g2 : Good base Q2) (h : Tk base g most Q2 L L2 bs B T y rest w0 w) {x : Int} (hx : I64 x) :
    Calls Tryz.prog 138 #[.pointer (some ⟨B, 0, none⟩), .int .i64 x] w (Gp (unsealG y x most L) (fun r => .int .i64 r.2) (fun L' x w' => Tk base g most Q2 L' L2 bs B T x.1 rest w0 w') (fun L' w' => Cs base (PSq base g most) Q2 L' L2 bs w0 w')) := by
  obtain ⟨z, c, e, L1, hf⟩ : ∃ z c e L1, unsealF L most y x = (z, c, e, L1) := ⟨_, _, _, _, rfl⟩
  have HSD := Lib.hid (unseal_sd h.cs.sound hf)
  have hfa := h.facts
  have HF := Lib.hid hf
  have HX := Lib.hid hx
  by_cases he : e = 0
  · subst he
    have HG : Hid (unsealG y x most L = (.ok (z, c), L1)) := Lib.hid (by unfold unsealG; rw [hf]; rfl)
    have HW := Lib.hid (unseal_wf hfa.2.1 hfa.2.2 h.wf hf)
    have HT := Lib.hid h
    clear h hf hfa hx
    go_enter Tryz.func138, Tryz.ntmps138
    replace HT := Lib.hid (HT.out.drew g2)
    go_wp2_with fail
    refine wp_region_held_drew (S := (fun W => W.cell? ⟨B, 0, none⟩ = some (.pointer (some ⟨g, 0, none⟩)) ∧ W.cell? ⟨B, 1, none⟩ = some (.int .i64 y.CK) ∧ W.cell? ⟨B, 2, none⟩ = some (.int .i64 y.K) ∧ W.cell? ⟨B, 3, none⟩ = some (.int .i64 y.H) ∧ W.cell? ⟨B, 4, none⟩ = some (.int .u64 y.N))) (by kernel_rfl) (⟨HT.out.c0, HT.out.c1, HT.out.c2, HT.out.c3, HT.out.c4⟩) (fun hHeld => ?_)
    refine tk1 0 (oi := ?o141) (v := ?v141) ?i141 ?w141 ?y141 ?r141
    case' i141 => simp only [g1, g2, g3]
    case i141 => rfl
    case w141 => kernel_rfl
    case y141 => (intro W hSw; go_simp) <;> with_reducible rfl
    try simp only [Act.put, p1, p2, p3]
    refine tk1 1 (oi := ?o142) (v := ?v142) ?i142 ?w142 ?y142 ?r142
    case' i142 => simp only [g1, g2, g3]
    case i142 => rfl
    case w142 => kernel_rfl
    case y142 => (intro W hSw; go_simp) <;> with_reducible rfl
    try simp only [Act.put, p1, p2, p3]
    refine tk1 2 (oi := ?o143) (v := ?v143) ?i143 ?w143 ?y143 ?r143
    case' i143 => simp only [g1, g2, g3]
    case i143 => rfl
    case w143 => kernel_rfl
    case y143 => (intro W hSw; go_simp) <;> with_reducible rfl
    try simp only [Act.put, p1, p2, p3]
    refine tk1 3 (oi := ?o144) (v := ?v144) ?i144 ?w144 ?y144 ?r144
    case' i144 => simp only [g1, g2, g3]
    case i144 => rfl
    case w144 => kernel_rfl
    case y144 => (intro W hSw; obtain ⟨q0, q1, q2, q3, q4⟩ := hSw; go_simp) <;> with_reducible rfl
    try simp only [Act.put, p1, p2, p3]
    refine tk1 4 (oi := ?o145) (v := ?v145) ?i145 ?w145 ?y145 ?r145
    case' i145 => simp only [g1, g2, g3]
    case i145 => rfl
    case w145 => kernel_rfl
    case y145 => (intro W hSw; go_simp) <;> with_reducible rfl
    try simp only [Act.put, p1, p2, p3]
    refine tk1 5 (oi := ?o146) (v := ?v146) ?i146 ?w146 ?y146 ?r146
    case' i146 => simp only [g1, g2, g3]
    case i146 => rfl
    case w146 => kernel_rfl
    case y146 => (intro W hSw; go_simp) <;> with_reducible rfl
    try simp only [Act.put, p1, p2, p3]
    refine tk1 6 (oi := ?o147) (v := ?v147) ?i147 ?w147 ?y147 ?r147
    case' i147 => simp only [g1, g2, g3]
    case i147 => rfl
    case w147 => kernel_rfl
    case y147 => (intro W hSw; go_simp) <;> with_reducible rfl
    try simp only [Act.put, p1, p2, p3]
    refine tk1 7 (oi := ?o148) (v := ?v148) ?i148 ?w148 ?y148 ?r148
    case' i148 => simp only [g1, g2, g3]
    case i148 => rfl
    case w148 => kernel_rfl
    case y148 => (intro W hSw; obtain ⟨q0, q1, q2, q3, q4⟩ := hSw; go_simp) <;> with_reducible rfl
    try simp only [Act.put, p1, p2, p3]
    refine tk1 8 (oi := ?o149) (v := ?v149) ?i149 ?w149 ?y149 ?r149
    case' i149 => simp only [g1, g2, g3]
    case i149 => rfl
    case w149 => kernel_rfl
    case y149 => (intro W hSw; go_simp) <;> with_reducible rfl
    try simp only [Act.put, p1, p2, p3]
    refine wpAnyH_ready (rs := [9, 14]) (by kernel_rfl) (by simp) ?_
    refine (AllReadyH.cons (o := ?o150_0) ?i150_0 (fun K' hK => ?g150_0) (AllReadyH.cons (o := ?o150_1) ?i150_1 (fun K' hK => ?g150_1) AllReadyH.nil))
    case' i150_0 => simp only [g1, g2, g3]
    case i150_0 => rfl
    case' i150_1 => simp only [g1, g2, g3]
    case i150_1 => rfl
    case g150_0 =>
      go_simp
      go_at_call 182
      refine (HT.out.cs.pair.yopenP g2 HT.out.wf HX.out HF.out).mono ?_
      rintro e' w1 ⟨rfl, hp, hk⟩
      replace HT := Lib.hid (HT.out.step hp hk HSD.out)
      clear hp hk
      simp only [Sy.v]
      go_wp2_with fail
      refine hK.out _ _ (⟨HT.out.c0, HT.out.c1, HT.out.c2, HT.out.c3, HT.out.c4⟩) (fun hHeld => ?_)
      clear hK K'
      try simp only [Act.put, p1, p2, p3]
      refine tk1 10 (oi := ?o151) (v := ?v151) ?i151 ?w151 ?y151 ?r151
      case' i151 => simp only [g1, g2, g3]
      case i151 => rfl
      case w151 => kernel_rfl
      case y151 => (intro W hSw; go_simp) <;> with_reducible rfl
      try simp only [Act.put, p1, p2, p3]
      refine tk1 11 (oi := ?o152) (v := ?v152) ?i152 ?w152 ?y152 ?r152
      case' i152 => simp only [g1, g2, g3]
      case i152 => rfl
      case w152 => kernel_rfl
      case y152 => (intro W hSw; go_simp) <;> with_reducible rfl
      try simp only [Act.put, p1, p2, p3]
      refine tk1 12 (oi := ?o153) (v := ?v153) ?i153 ?w153 ?y153 ?r153
      case' i153 => simp only [g1, g2, g3]
      case i153 => rfl
      case w153 => kernel_rfl
      case y153 => (intro W hSw; go_simp) <;> with_reducible rfl
      try simp only [Act.put, p1, p2, p3]
      refine tk1 13 (oi := ?o154) (v := ?v154) ?i154 ?w154 ?y154 ?r154
      case' i154 => simp only [g1, g2, g3]
      case i154 => rfl
      case w154 => kernel_rfl
      case y154 => (intro W hSw; go_simp) <;> with_reducible rfl
      try simp only [Act.put, p1, p2, p3]
      refine wpAnyH_ready (rs := [14]) (by kernel_rfl) (by simp) ?_
      refine (AllReadyH.cons (o := ?o155_0) ?i155_0 (fun K' hK => ?g155_0) AllReadyH.nil)
      case' i155_0 => simp only [g1, g2, g3]
      case i155_0 => rfl
      have HT0 := HT
      go_simp
      obtain ⟨hbx, hbn⟩ := HT.out.box g2 #[.int .i64 0, .int .i64 0, .int .i64 0, .int .u64 0] 45 (b := w1.heap.size) (by first | rfl | simp)
      replace HT := Lib.hid hbx
      have HN := Lib.hid hbn
      clear hbx hbn
      refine hK.out _ _ (⟨HT.out.c0, HT.out.c1, HT.out.c2, HT.out.c3, HT.out.c4⟩) (fun hHeld => ?_)
      clear hK K'
      try simp only [Act.put, p1, p2, p3]
      refine wpAnyH_ready (rs := [15]) (by kernel_rfl) (by simp) ?_
      refine (AllReadyH.cons (o := ?o156_0) ?i156_0 (fun K' hK => ?g156_0) AllReadyH.nil)
      case' i156_0 => simp only [g1, g2, g3]
      case i156_0 => rfl
      go_simp
      obtain ⟨hbx, hbn⟩ := HT0.out.box g2 #[.int .i64 z.CK, .int .i64 z.K, .int .i64 z.H, .int .u64 z.N] 45 (b := w1.heap.size) rfl
      replace HT := Lib.hid hbx.unbox0
      have HR := Lib.hid (hbx.cs.kept _ _ (List.mem_cons_of_mem _ List.mem_cons_self))
      clear hbx hbn HT0
      refine hK.out _ _ (⟨HT.out.c0, HT.out.c1, HT.out.c2, HT.out.c3, HT.out.c4⟩) (fun hHeld => ?_)
      clear hK K'
      try simp only [Act.put, p1, p2, p3]
      refine tk1 16 (oi := ?o157) (v := ?v157) ?i157 ?w157 ?y157 ?r157
      case' i157 => simp only [g1, g2, g3]
      case i157 => rfl
      case w157 => kernel_rfl
      case y157 => (intro W hSw; go_simp) <;> with_reducible rfl
      try simp only [Act.put, p1, p2, p3]
      refine tk1 17 (oi := ?o158) (v := ?v158) ?i158 ?w158 ?y158 ?r158
      case' i158 => simp only [g1, g2, g3]
      case i158 => rfl
      case w158 => kernel_rfl
      case y158 => (intro W hSw; go_simp) <;> with_reducible rfl
      try simp only [Act.put, p1, p2, p3]
      refine wpAnyH_done (by kernel_rfl) ?_ _
      generalize hWx : World.alloc _ _ = Wx at HT HR ⊢
      clear hWx
      have r0 := cell_of_row Wx _ 0 _ _ _ HR.out
      have r1 := cell_of_row Wx _ 1 _ _ _ HR.out
      have r2 := cell_of_row Wx _ 2 _ _ _ HR.out
      have r3 := cell_of_row Wx _ 3 _ _ _ HR.out
      simp at r0 r1 r2 r3
      have d0 := HT.out.c0
      have d1 := HT.out.c1
      have d2 := HT.out.c2
      have d3 := HT.out.c3
      have d4 := HT.out.c4
      have f1 := HT.out.fz 1
      have f2 := HT.out.fz 2
      have f3 := HT.out.fz 3
      have f4 := HT.out.fz 4
      go_wp2_with fail
      refine (must_yes _).mono ?_
      rintro e' w2 ⟨rfl, rfl⟩
      go_wp2_with fail
      go_ret
      exact .inl ⟨_, _, HG.out, rfl, HT.out.put4 g2 HW.out⟩
    case g150_1 =>
      go_simp
      obtain ⟨hbx, hbn⟩ := HT.out.box g2 #[.int .i64 0, .int .i64 0, .int .i64 0, .int .u64 0] 45 (b := w.heap.size) (by first | rfl | simp)
      replace HT := Lib.hid hbx
      have HN := Lib.hid hbn
      clear hbx hbn
      refine hK.out _ _ (⟨HT.out.c0, HT.out.c1, HT.out.c2, HT.out.c3, HT.out.c4⟩) (fun hHeld => ?_)
      clear hK K'
      try simp only [Act.put, p1, p2, p3]
      refine wpAnyH_ready (rs := [9]) (by kernel_rfl) (by simp) ?_
      refine (AllReadyH.cons (o := ?o159_0) ?i159_0 (fun K' hK => ?g159_0) AllReadyH.nil)
      case' i159_0 => simp only [g1, g2, g3]
      case i159_0 => rfl
      go_simp
      go_at_call 182
      refine (HT.out.cs.pair.yopenP g2 HT.out.wf HX.out HF.out).mono ?_
      rintro e' w1 ⟨rfl, hp, hk⟩
      replace HT := Lib.hid (HT.out.step hp hk HSD.out)
      clear hp hk
      simp only [Sy.v]
      go_wp2_with fail
      refine hK.out _ _ (⟨HT.out.c0, HT.out.c1, HT.out.c2, HT.out.c3, HT.out.c4⟩) (fun hHeld => ?_)
      clear hK K'
      try simp only [Act.put, p1, p2, p3]
      refine tk1 10 (oi := ?o160) (v := ?v160) ?i160 ?w160 ?y160 ?r160
      case' i160 => simp only [g1, g2, g3]
      case i160 => rfl
      case w160 => kernel_rfl
      case y160 => (intro W hSw; go_simp) <;> with_reducible rfl
      try simp only [Act.put, p1, p2, p3]
      refine tk1 11 (oi := ?o161) (v := ?v161) ?i161 ?w161 ?y161 ?r161
      case' i161 => simp only [g1, g2, g3]
      case i161 => rfl
      case w161 => kernel_rfl
      case y161 => (intro W hSw; go_simp) <;> with_reducible rfl
      try simp only [Act.put, p1, p2, p3]
      refine tk1 12 (oi := ?o162) (v := ?v162) ?i162 ?w162 ?y162 ?r162
      case' i162 => simp only [g1, g2, g3]
      case i162 => rfl
      case w162 => kernel_rfl
      case y162 => (intro W hSw; go_simp) <;> with_reducible rfl
      try simp only [Act.put, p1, p2, p3]
      refine tk1 13 (oi := ?o163) (v := ?v163) ?i163 ?w163 ?y163 ?r163
      case' i163 => simp only [g1, g2, g3]
      case i163 => rfl
      case w163 => kernel_rfl
      case y163 => (intro W hSw; go_simp) <;> with_reducible rfl
      try simp only [Act.put, p1, p2, p3]
      refine wpAnyH_ready (rs := [15]) (by kernel_rfl) (by simp) ?_
      refine (AllReadyH.cons (o := ?o164_0) ?i164_0 (fun K' hK => ?g164_0) AllReadyH.nil)
      case' i164_0 => simp only [g1, g2, g3]
      case i164_0 => rfl
      obtain ⟨b0, bf0⟩ := HT.out.boxc (List.mem_cons_self) 0 rfl
      obtain ⟨b1, bf1⟩ := HT.out.boxc (List.mem_cons_self) 1 rfl
      obtain ⟨b2, bf2⟩ := HT.out.boxc (List.mem_cons_self) 2 rfl
      obtain ⟨b3, bf3⟩ := HT.out.boxc (List.mem_cons_self) 3 rfl
      go_simp
      obtain ⟨hbx, hbr⟩ := HT.out.unbox4 g2 HN.out (.int .i64 z.CK) (.int .i64 z.K) (.int .i64 z.H) (.int .u64 z.N)
      replace HT := Lib.hid hbx
      have HR := Lib.hid hbr
      clear hbx hbr b0 b1 b2 b3 bf0 bf1 bf2 bf3
      refine hK.out _ _ (⟨HT.out.c0, HT.out.c1, HT.out.c2, HT.out.c3, HT.out.c4⟩) (fun hHeld => ?_)
      clear hK K'
      try simp only [Act.put, p1, p2, p3]
      refine tk1 16 (oi := ?o165) (v := ?v165) ?i165 ?w165 ?y165 ?r165
      case' i165 => simp only [g1, g2, g3]
      case i165 => rfl
      case w165 => kernel_rfl
      case y165 => (intro W hSw; go_simp) <;> with_reducible rfl
      try simp only [Act.put, p1, p2, p3]
      refine tk1 17 (oi := ?o166) (v := ?v166) ?i166 ?w166 ?y166 ?r166
      case' i166 => simp only [g1, g2, g3]
      case i166 => rfl
      case w166 => kernel_rfl
      case y166 => (intro W hSw; go_simp) <;> with_reducible rfl
      try simp only [Act.put, p1, p2, p3]
      refine wpAnyH_done (by kernel_rfl) ?_ _
      generalize hWx : World.setCell _ _ _ = Wx at HT HR ⊢
      clear hWx
      have r0 := cell_of_row Wx _ 0 _ _ _ HR.out
      have r1 := cell_of_row Wx _ 1 _ _ _ HR.out
      have r2 := cell_of_row Wx _ 2 _ _ _ HR.out
      have r3 := cell_of_row Wx _ 3 _ _ _ HR.out
      simp at r0 r1 r2 r3
      have d0 := HT.out.c0
      have d1 := HT.out.c1
      have d2 := HT.out.c2
      have d3 := HT.out.c3
      have d4 := HT.out.c4
      have f1 := HT.out.fz 1
      have f2 := HT.out.fz 2
      have f3 := HT.out.fz 3
      have f4 := HT.out.fz 4
      go_wp2_with fail
      refine (must_yes _).mono ?_
      rintro e' w2 ⟨rfl, rfl⟩
      go_wp2_with fail
      go_ret
      exact .inl ⟨_, _, HG.out, rfl, HT.out.put4 g2 HW.out⟩
  · have HG : Hid (unsealG y x most L = (.error e, L1)) := Lib.hid (by unfold unsealG; rw [hf]; exact congrArg (fun r => (r, L1)) (if_neg he))
    have HE := Lib.hid he
    have HT := Lib.hid h
    clear h hf hfa he hx
    go_enter Tryz.func138, Tryz.ntmps138
    replace HT := Lib.hid (HT.out.drew g2)
    go_wp2_with fail
    refine wp_region_held_drew (S := (fun W => W.cell? ⟨B, 0, none⟩ = some (.pointer (some ⟨g, 0, none⟩)) ∧ W.cell? ⟨B, 1, none⟩ = some (.int .i64 y.CK) ∧ W.cell? ⟨B, 2, none⟩ = some (.int .i64 y.K) ∧ W.cell? ⟨B, 3, none⟩ = some (.int .i64 y.H) ∧ W.cell? ⟨B, 4, none⟩ = some (.int .u64 y.N))) (by kernel_rfl) (⟨HT.out.c0, HT.out.c1, HT.out.c2, HT.out.c3, HT.out.c4⟩) (fun hHeld => ?_)
    refine tk1 0 (oi := ?o167) (v := ?v167) ?i167 ?w167 ?y167 ?r167
    case' i167 => simp only [g1, g2, g3]
    case i167 => rfl
    case w167 => kernel_rfl
    case y167 => (intro W hSw; go_simp) <;> with_reducible rfl
    try simp only [Act.put, p1, p2, p3]
    refine tk1 1 (oi := ?o168) (v := ?v168) ?i168 ?w168 ?y168 ?r168
    case' i168 => simp only [g1, g2, g3]
    case i168 => rfl
    case w168 => kernel_rfl
    case y168 => (intro W hSw; go_simp) <;> with_reducible rfl
    try simp only [Act.put, p1, p2, p3]
    refine tk1 2 (oi := ?o169) (v := ?v169) ?i169 ?w169 ?y169 ?r169
    case' i169 => simp only [g1, g2, g3]
    case i169 => rfl
    case w169 => kernel_rfl
    case y169 => (intro W hSw; go_simp) <;> with_reducible rfl
    try simp only [Act.put, p1, p2, p3]
    refine tk1 3 (oi := ?o170) (v := ?v170) ?i170 ?w170 ?y170 ?r170
    case' i170 => simp only [g1, g2, g3]
    case i170 => rfl
    case w170 => kernel_rfl
    case y170 => (intro W hSw; obtain ⟨q0, q1, q2, q3, q4⟩ := hSw; go_simp) <;> with_reducible rfl
    try simp only [Act.put, p1, p2, p3]
    refine tk1 4 (oi := ?o171) (v := ?v171) ?i171 ?w171 ?y171 ?r171
    case' i171 => simp only [g1, g2, g3]
    case i171 => rfl
    case w171 => kernel_rfl
    case y171 => (intro W hSw; go_simp) <;> with_reducible rfl
    try simp only [Act.put, p1, p2, p3]
    refine tk1 5 (oi := ?o172) (v := ?v172) ?i172 ?w172 ?y172 ?r172
    case' i172 => simp only [g1, g2, g3]
    case i172 => rfl
    case w172 => kernel_rfl
    case y172 => (intro W hSw; go_simp) <;> with_reducible rfl
    try simp only [Act.put, p1, p2, p3]
    refine tk1 6 (oi := ?o173) (v := ?v173) ?i173 ?w173 ?y173 ?r173
    case' i173 => simp only [g1, g2, g3]
    case i173 => rfl
    case w173 => kernel_rfl
    case y173 => (intro W hSw; go_simp) <;> with_reducible rfl
    try simp only [Act.put, p1, p2, p3]
    refine tk1 7 (oi := ?o174) (v := ?v174) ?i174 ?w174 ?y174 ?r174
    case' i174 => simp only [g1, g2, g3]
    case i174 => rfl
    case w174 => kernel_rfl
    case y174 => (intro W hSw; obtain ⟨q0, q1, q2, q3, q4⟩ := hSw; go_simp) <;> with_reducible rfl
    try simp only [Act.put, p1, p2, p3]
    refine tk1 8 (oi := ?o175) (v := ?v175) ?i175 ?w175 ?y175 ?r175
    case' i175 => simp only [g1, g2, g3]
    case i175 => rfl
    case w175 => kernel_rfl
    case y175 => (intro W hSw; go_simp) <;> with_reducible rfl
    try simp only [Act.put, p1, p2, p3]
    refine wpAnyH_ready (rs := [9, 14]) (by kernel_rfl) (by simp) ?_
    refine (AllReadyH.cons (o := ?o176_0) ?i176_0 (fun K' hK => ?g176_0) (AllReadyH.cons (o := ?o176_1) ?i176_1 (fun K' hK => ?g176_1) AllReadyH.nil))
    case' i176_0 => simp only [g1, g2, g3]
    case i176_0 => rfl
    case' i176_1 => simp only [g1, g2, g3]
    case i176_1 => rfl
    case g176_0 =>
      go_simp
      go_at_call 182
      refine (HT.out.cs.pair.yopenP g2 HT.out.wf HX.out HF.out).mono ?_
      rintro e' w1 ⟨rfl, hp, hk⟩
      replace HT := Lib.hid (HT.out.step hp hk HSD.out)
      clear hp hk
      simp only [Sy.v]
      go_wp2_with fail
      refine hK.out _ _ (⟨HT.out.c0, HT.out.c1, HT.out.c2, HT.out.c3, HT.out.c4⟩) (fun hHeld => ?_)
      clear hK K'
      try simp only [Act.put, p1, p2, p3]
      refine tk1 10 (oi := ?o177) (v := ?v177) ?i177 ?w177 ?y177 ?r177
      case' i177 => simp only [g1, g2, g3]
      case i177 => rfl
      case w177 => kernel_rfl
      case y177 => (intro W hSw; go_simp) <;> with_reducible rfl
      try simp only [Act.put, p1, p2, p3]
      refine tk1 11 (oi := ?o178) (v := ?v178) ?i178 ?w178 ?y178 ?r178
      case' i178 => simp only [g1, g2, g3]
      case i178 => rfl
      case w178 => kernel_rfl
      case y178 => (intro W hSw; go_simp) <;> with_reducible rfl
      try simp only [Act.put, p1, p2, p3]
      refine tk1 12 (oi := ?o179) (v := ?v179) ?i179 ?w179 ?y179 ?r179
      case' i179 => simp only [g1, g2, g3]
      case i179 => rfl
      case w179 => kernel_rfl
      case y179 => (intro W hSw; go_simp) <;> with_reducible rfl
      try simp only [Act.put, p1, p2, p3]
      refine tk1 13 (oi := ?o180) (v := ?v180) ?i180 ?w180 ?y180 ?r180
      case' i180 => simp only [g1, g2, g3]
      case i180 => rfl
      case w180 => kernel_rfl
      case y180 => (intro W hSw; go_simp) <;> with_reducible rfl
      try simp only [Act.put, p1, p2, p3]
      refine wpAnyH_ready (rs := [14]) (by kernel_rfl) (by simp) ?_
      refine (AllReadyH.cons (o := ?o181_0) ?i181_0 (fun K' hK => ?g181_0) AllReadyH.nil)
      case' i181_0 => simp only [g1, g2, g3]
      case i181_0 => rfl
      have HT0 := HT
      go_simp
      obtain ⟨hbx, hbn⟩ := HT.out.box g2 #[.int .i64 0, .int .i64 0, .int .i64 0, .int .u64 0] 45 (b := w1.heap.size) (by first | rfl | simp)
      replace HT := Lib.hid hbx
      have HN := Lib.hid hbn
      clear hbx hbn
      refine hK.out _ _ (⟨HT.out.c0, HT.out.c1, HT.out.c2, HT.out.c3, HT.out.c4⟩) (fun hHeld => ?_)
      clear hK K'
      try simp only [Act.put, p1, p2, p3]
      refine wpAnyH_ready (rs := [15]) (by kernel_rfl) (by simp) ?_
      refine (AllReadyH.cons (o := ?o182_0) ?i182_0 (fun K' hK => ?g182_0) AllReadyH.nil)
      case' i182_0 => simp only [g1, g2, g3]
      case i182_0 => rfl
      go_simp
      obtain ⟨hbx, hbn⟩ := HT0.out.box g2 #[.int .i64 z.CK, .int .i64 z.K, .int .i64 z.H, .int .u64 z.N] 45 (b := w1.heap.size) rfl
      replace HT := Lib.hid hbx.unbox0
      have HR := Lib.hid (hbx.cs.kept _ _ (List.mem_cons_of_mem _ List.mem_cons_self))
      clear hbx hbn HT0
      refine hK.out _ _ (⟨HT.out.c0, HT.out.c1, HT.out.c2, HT.out.c3, HT.out.c4⟩) (fun hHeld => ?_)
      clear hK K'
      try simp only [Act.put, p1, p2, p3]
      refine tk1 16 (oi := ?o183) (v := ?v183) ?i183 ?w183 ?y183 ?r183
      case' i183 => simp only [g1, g2, g3]
      case i183 => rfl
      case w183 => kernel_rfl
      case y183 => (intro W hSw; go_simp) <;> with_reducible rfl
      try simp only [Act.put, p1, p2, p3]
      refine tk1 17 (oi := ?o184) (v := ?v184) ?i184 ?w184 ?y184 ?r184
      case' i184 => simp only [g1, g2, g3]
      case i184 => rfl
      case w184 => kernel_rfl
      case y184 => (intro W hSw; go_simp) <;> with_reducible rfl
      try simp only [Act.put, p1, p2, p3]
      refine wpAnyH_done (by kernel_rfl) ?_ _
      go_wp2_with fail
      refine (must_no _ HE.out _).mono ?_
      rintro e' w2 ⟨rfl, rfl⟩
      unfold Fell
      go_wp2_with fail
      exact ⟨rfl, .inr ⟨_, _, HG.out, HE.out, rfl, HT.out.fall⟩⟩
    case g176_1 =>
      go_simp
      obtain ⟨hbx, hbn⟩ := HT.out.box g2 #[.int .i64 0, .int .i64 0, .int .i64 0, .int .u64 0] 45 (b := w.heap.size) (by first | rfl | simp)
      replace HT := Lib.hid hbx
      have HN := Lib.hid hbn
      clear hbx hbn
      refine hK.out _ _ (⟨HT.out.c0, HT.out.c1, HT.out.c2, HT.out.c3, HT.out.c4⟩) (fun hHeld => ?_)
      clear hK K'
      try simp only [Act.put, p1, p2, p3]
      refine wpAnyH_ready (rs := [9]) (by kernel_rfl) (by simp) ?_
      refine (AllReadyH.cons (o := ?o185_0) ?i185_0 (fun K' hK => ?g185_0) AllReadyH.nil)
      case' i185_0 => simp only [g1, g2, g3]
      case i185_0 => rfl
      go_simp
      go_at_call 182
      refine (HT.out.cs.pair.yopenP g2 HT.out.wf HX.out HF.out).mono ?_
      rintro e' w1 ⟨rfl, hp, hk⟩
      replace HT := Lib.hid (HT.out.step hp hk HSD.out)
      clear hp hk
      simp only [Sy.v]
      go_wp2_with fail
      refine hK.out _ _ (⟨HT.out.c0, HT.out.c1, HT.out.c2, HT.out.c3, HT.out.c4⟩) (fun hHeld => ?_)
      clear hK K'
      try simp only [Act.put, p1, p2, p3]
      refine tk1 10 (oi := ?o186) (v := ?v186) ?i186 ?w186 ?y186 ?r186
      case' i186 => simp only [g1, g2, g3]
      case i186 => rfl
      case w186 => kernel_rfl
      case y186 => (intro W hSw; go_simp) <;> with_reducible rfl
      try simp only [Act.put, p1, p2, p3]
      refine tk1 11 (oi := ?o187) (v := ?v187) ?i187 ?w187 ?y187 ?r187
      case' i187 => simp only [g1, g2, g3]
      case i187 => rfl
      case w187 => kernel_rfl
      case y187 => (intro W hSw; go_simp) <;> with_reducible rfl
      try simp only [Act.put, p1, p2, p3]
      refine tk1 12 (oi := ?o188) (v := ?v188) ?i188 ?w188 ?y188 ?r188
      case' i188 => simp only [g1, g2, g3]
      case i188 => rfl
      case w188 => kernel_rfl
      case y188 => (intro W hSw; go_simp) <;> with_reducible rfl
      try simp only [Act.put, p1, p2, p3]
      refine tk1 13 (oi := ?o189) (v := ?v189) ?i189 ?w189 ?y189 ?r189
      case' i189 => simp only [g1, g2, g3]
      case i189 => rfl
      case w189 => kernel_rfl
      case y189 => (intro W hSw; go_simp) <;> with_reducible rfl
      try simp only [Act.put, p1, p2, p3]
      refine wpAnyH_ready (rs := [15]) (by kernel_rfl) (by simp) ?_
      refine (AllReadyH.cons (o := ?o190_0) ?i190_0 (fun K' hK => ?g190_0) AllReadyH.nil)
      case' i190_0 => simp only [g1, g2, g3]
      case i190_0 => rfl
      obtain ⟨b0, bf0⟩ := HT.out.boxc (List.mem_cons_self) 0 rfl
      obtain ⟨b1, bf1⟩ := HT.out.boxc (List.mem_cons_self) 1 rfl
      obtain ⟨b2, bf2⟩ := HT.out.boxc (List.mem_cons_self) 2 rfl
      obtain ⟨b3, bf3⟩ := HT.out.boxc (List.mem_cons_self) 3 rfl
      go_simp
      obtain ⟨hbx, hbr⟩ := HT.out.unbox4 g2 HN.out (.int .i64 z.CK) (.int .i64 z.K) (.int .i64 z.H) (.int .u64 z.N)
      replace HT := Lib.hid hbx
      have HR := Lib.hid hbr
      clear hbx hbr b0 b1 b2 b3 bf0 bf1 bf2 bf3
      refine hK.out _ _ (⟨HT.out.c0, HT.out.c1, HT.out.c2, HT.out.c3, HT.out.c4⟩) (fun hHeld => ?_)
      clear hK K'
      try simp only [Act.put, p1, p2, p3]
      refine tk1 16 (oi := ?o191) (v := ?v191) ?i191 ?w191 ?y191 ?r191
      case' i191 => simp only [g1, g2, g3]
      case i191 => rfl
      case w191 => kernel_rfl
      case y191 => (intro W hSw; go_simp) <;> with_reducible rfl
      try simp only [Act.put, p1, p2, p3]
      refine tk1 17 (oi := ?o192) (v := ?v192) ?i192 ?w192 ?y192 ?r192
      case' i192 => simp only [g1, g2, g3]
      case i192 => rfl
      case w192 => kernel_rfl
      case y192 => (intro W hSw; go_simp) <;> with_reducible rfl
      try simp only [Act.put, p1, p2, p3]
      refine wpAnyH_done (by kernel_rfl) ?_ _
      go_wp2_with fail
      refine (must_no _ HE.out _).mono ?_
      rintro e' w2 ⟨rfl, rfl⟩
      unfold Fell
      go_wp2_with fail
      exact ⟨rfl, .inr ⟨_, _, HG.out, HE.out, rfl, HT.out.fall⟩⟩
set_option maxHeartbeats 2000000 in
theorem tk_split (g2 : Good base Q2) (h : Tk base g most Q2 L L2 bs B T y rest w0 w)  :
    Calls Tryz.prog 147 #[.pointer (some ⟨B, 0, none⟩)] w (Gp (splitG y most L) (fun r => .tuple #[.int .i64 r.1, .int .i64 r.2]) (fun L' x w' => Tk base g most Q2 L' L2 bs B T y rest w0 w') (fun L' w' => Cs base (PSq base g most) Q2 L' L2 bs w0 w')) := by
  obtain ⟨a, b, e, L1, hf⟩ : ∃ a b e L1, splitF L most y = (a, b, e, L1) := ⟨_, _, _, _, rfl⟩
  have HSD := Lib.hid (split_sd h.cs.sound hf)
  have hfa := h.facts
  have HF := Lib.hid hf
  by_cases he : e = 0
  · subst he
    have HG : Hid (splitG y most L = (.ok (a, b), L1)) := Lib.hid (by unfold splitG; rw [hf]; rfl)
    have HT := Lib.hid h
    clear h hf hfa
    go_enter Tryz.func147, Tryz.ntmps147
    replace HT := Lib.hid (HT.out.drew g2)
    go_wp2_with fail
    refine wp_region_held_drew (S := (fun W => W.cell? ⟨B, 0, none⟩ = some (.pointer (some ⟨g, 0, none⟩)) ∧ W.cell? ⟨B, 1, none⟩ = some (.int .i64 y.CK) ∧ W.cell? ⟨B, 2, none⟩ = some (.int .i64 y.K) ∧ W.cell? ⟨B, 3, none⟩ = some (.int .i64 y.H) ∧ W.cell? ⟨B, 4, none⟩ = some (.int .u64 y.N))) (by kernel_rfl) (⟨HT.out.c0, HT.out.c1, HT.out.c2, HT.out.c3, HT.out.c4⟩) (fun hHeld => ?_)
    refine tk1 0 (oi := ?o193) (v := ?v193) ?i193 ?w193 ?y193 ?r193
    case' i193 => simp only [g1, g2, g3]
    case i193 => rfl
    case w193 => kernel_rfl
    case y193 => (intro W hSw; go_simp) <;> with_reducible rfl
    try simp only [Act.put, p1, p2, p3]
    refine tk1 1 (oi := ?o194) (v := ?v194) ?i194 ?w194 ?y194 ?r194
    case' i194 => simp only [g1, g2, g3]
    case i194 => rfl
    case w194 => kernel_rfl
    case y194 => (intro W hSw; go_simp) <;> with_reducible rfl
    try simp only [Act.put, p1, p2, p3]
    refine tk1 2 (oi := ?o195) (v := ?v195) ?i195 ?w195 ?y195 ?r195
    case' i195 => simp only [g1, g2, g3]
    case i195 => rfl
    case w195 => kernel_rfl
    case y195 => (intro W hSw; go_simp) <;> with_reducible rfl
    try simp only [Act.put, p1, p2, p3]
    refine tk1 3 (oi := ?o196) (v := ?v196) ?i196 ?w196 ?y196 ?r196
    case' i196 => simp only [g1, g2, g3]
    case i196 => rfl
    case w196 => kernel_rfl
    case y196 => (intro W hSw; obtain ⟨q0, q1, q2, q3, q4⟩ := hSw; go_simp) <;> with_reducible rfl
    try simp only [Act.put, p1, p2, p3]
    refine tk1 4 (oi := ?o197) (v := ?v197) ?i197 ?w197 ?y197 ?r197
    case' i197 => simp only [g1, g2, g3]
    case i197 => rfl
    case w197 => kernel_rfl
    case y197 => (intro W hSw; go_simp) <;> with_reducible rfl
    try simp only [Act.put, p1, p2, p3]
    refine tk1 5 (oi := ?o198) (v := ?v198) ?i198 ?w198 ?y198 ?r198
    case' i198 => simp only [g1, g2, g3]
    case i198 => rfl
    case w198 => kernel_rfl
    case y198 => (intro W hSw; go_simp) <;> with_reducible rfl
    try simp only [Act.put, p1, p2, p3]
    refine tk1 6 (oi := ?o199) (v := ?v199) ?i199 ?w199 ?y199 ?r199
    case' i199 => simp only [g1, g2, g3]
    case i199 => rfl
    case w199 => kernel_rfl
    case y199 => (intro W hSw; go_simp) <;> with_reducible rfl
    try simp only [Act.put, p1, p2, p3]
    refine tk1 7 (oi := ?o200) (v := ?v200) ?i200 ?w200 ?y200 ?r200
    case' i200 => simp only [g1, g2, g3]
    case i200 => rfl
    case w200 => kernel_rfl
    case y200 => (intro W hSw; obtain ⟨q0, q1, q2, q3, q4⟩ := hSw; go_simp) <;> with_reducible rfl
    try simp only [Act.put, p1, p2, p3]
    refine wpAnyH_ready (rs := [8]) (by kernel_rfl) (by simp) ?_
    refine (AllReadyH.cons (o := ?o201_0) ?i201_0 (fun K' hK => ?g201_0) AllReadyH.nil)
    case' i201_0 => simp only [g1, g2, g3]
    case i201_0 => rfl
    go_simp
    go_at_call 185
    refine (HT.out.cs.pair.splitP g2 HT.out.wf HF.out).mono ?_
    rintro e' w1 ⟨rfl, hp, hk⟩
    replace HT := Lib.hid (HT.out.step hp hk HSD.out)
    clear hp hk
    go_wp2_with fail
    refine hK.out _ _ (⟨HT.out.c0, HT.out.c1, HT.out.c2, HT.out.c3, HT.out.c4⟩) (fun hHeld => ?_)
    clear hK K'
    try simp only [Act.put, p1, p2, p3]
    refine tk1 9 (oi := ?o202) (v := ?v202) ?i202 ?w202 ?y202 ?r202
    case' i202 => simp only [g1, g2, g3]
    case i202 => rfl
    case w202 => kernel_rfl
    case y202 => (intro W hSw; go_simp) <;> with_reducible rfl
    try simp only [Act.put, p1, p2, p3]
    refine tk1 10 (oi := ?o203) (v := ?v203) ?i203 ?w203 ?y203 ?r203
    case' i203 => simp only [g1, g2, g3]
    case i203 => rfl
    case w203 => kernel_rfl
    case y203 => (intro W hSw; go_simp) <;> with_reducible rfl
    try simp only [Act.put, p1, p2, p3]
    refine tk1 11 (oi := ?o204) (v := ?v204) ?i204 ?w204 ?y204 ?r204
    case' i204 => simp only [g1, g2, g3]
    case i204 => rfl
    case w204 => kernel_rfl
    case y204 => (intro W hSw; go_simp) <;> with_reducible rfl
    try simp only [Act.put, p1, p2, p3]
    refine tk1 12 (oi := ?o205) (v := ?v205) ?i205 ?w205 ?y205 ?r205
    case' i205 => simp only [g1, g2, g3]
    case i205 => rfl
    case w205 => kernel_rfl
    case y205 => (intro W hSw; go_simp) <;> with_reducible rfl
    try simp only [Act.put, p1, p2, p3]
    refine tk1 13 (oi := ?o206) (v := ?v206) ?i206 ?w206 ?y206 ?r206
    case' i206 => simp only [g1, g2, g3]
    case i206 => rfl
    case w206 => kernel_rfl
    case y206 => (intro W hSw; go_simp) <;> with_reducible rfl
    try simp only [Act.put, p1, p2, p3]
    refine tk1 14 (oi := ?o207) (v := ?v207) ?i207 ?w207 ?y207 ?r207
    case' i207 => simp only [g1, g2, g3]
    case i207 => rfl
    case w207 => kernel_rfl
    case y207 => (intro W hSw; go_simp) <;> with_reducible rfl
    try simp only [Act.put, p1, p2, p3]
    refine tk1 15 (oi := ?o208) (v := ?v208) ?i208 ?w208 ?y208 ?r208
    case' i208 => simp only [g1, g2, g3]
    case i208 => rfl
    case w208 => kernel_rfl
    case y208 => (intro W hSw; go_simp) <;> with_reducible rfl
    try simp only [Act.put, p1, p2, p3]
    refine wpAnyH_done (by kernel_rfl) ?_ _
    go_wp2_with fail
    refine (must_yes _).mono ?_
    rintro e' w2 ⟨rfl, rfl⟩
    go_wp2_with fail
    go_ret2
    exact .inl ⟨_, _, HG.out, rfl, HT.out⟩
  · have HG : Hid (splitG y most L = (.error e, L1)) := Lib.hid (by unfold splitG; rw [hf]; exact congrArg (fun r => (r, L1)) (if_neg he))
    have HE := Lib.hid he
    have HT := Lib.hid h
    clear h hf hfa he
    go_enter Tryz.func147, Tryz.ntmps147
    replace HT := Lib.hid (HT.out.drew g2)
    go_wp2_with fail
    refine wp_region_held_drew (S := (fun W => W.cell? ⟨B, 0, none⟩ = some (.pointer (some ⟨g, 0, none⟩)) ∧ W.cell? ⟨B, 1, none⟩ = some (.int .i64 y.CK) ∧ W.cell? ⟨B, 2, none⟩ = some (.int .i64 y.K) ∧ W.cell? ⟨B, 3, none⟩ = some (.int .i64 y.H) ∧ W.cell? ⟨B, 4, none⟩ = some (.int .u64 y.N))) (by kernel_rfl) (⟨HT.out.c0, HT.out.c1, HT.out.c2, HT.out.c3, HT.out.c4⟩) (fun hHeld => ?_)
    refine tk1 0 (oi := ?o209) (v := ?v209) ?i209 ?w209 ?y209 ?r209
    case' i209 => simp only [g1, g2, g3]
    case i209 => rfl
    case w209 => kernel_rfl
    case y209 => (intro W hSw; go_simp) <;> with_reducible rfl
    try simp only [Act.put, p1, p2, p3]
    refine tk1 1 (oi := ?o210) (v := ?v210) ?i210 ?w210 ?y210 ?r210
    case' i210 => simp only [g1, g2, g3]
    case i210 => rfl
    case w210 => kernel_rfl
    case y210 => (intro W hSw; go_simp) <;> with_reducible rfl
    try simp only [Act.put, p1, p2, p3]
    refine tk1 2 (oi := ?o211) (v := ?v211) ?i211 ?w211 ?y211 ?r211
    case' i211 => simp only [g1, g2, g3]
    case i211 => rfl
    case w211 => kernel_rfl
    case y211 => (intro W hSw; go_simp) <;> with_reducible rfl
    try simp only [Act.put, p1, p2, p3]
    refine tk1 3 (oi := ?o212) (v := ?v212) ?i212 ?w212 ?y212 ?r212
    case' i212 => simp only [g1, g2, g3]
    case i212 => rfl
    case w212 => kernel_rfl
    case y212 => (intro W hSw; obtain ⟨q0, q1, q2, q3, q4⟩ := hSw; go_simp) <;> with_reducible rfl
    try simp only [Act.put, p1, p2, p3]
    refine tk1 4 (oi := ?o213) (v := ?v213) ?i213 ?w213 ?y213 ?r213
    case' i213 => simp only [g1, g2, g3]
    case i213 => rfl
    case w213 => kernel_rfl
    case y213 => (intro W hSw; go_simp) <;> with_reducible rfl
    try simp only [Act.put, p1, p2, p3]
    refine tk1 5 (oi := ?o214) (v := ?v214) ?i214 ?w214 ?y214 ?r214
    case' i214 => simp only [g1, g2, g3]
    case i214 => rfl
    case w214 => kernel_rfl
    case y214 => (intro W hSw; go_simp) <;> with_reducible rfl
    try simp only [Act.put, p1, p2, p3]
    refine tk1 6 (oi := ?o215) (v := ?v215) ?i215 ?w215 ?y215 ?r215
    case' i215 => simp only [g1, g2, g3]
    case i215 => rfl
    case w215 => kernel_rfl
    case y215 => (intro W hSw; go_simp) <;> with_reducible rfl
    try simp only [Act.put, p1, p2, p3]
    refine tk1 7 (oi := ?o216) (v := ?v216) ?i216 ?w216 ?y216 ?r216
    case' i216 => simp only [g1, g2, g3]
    case i216 => rfl
    case w216 => kernel_rfl
    case y216 => (intro W hSw; obtain ⟨q0, q1, q2, q3, q4⟩ := hSw; go_simp) <;> with_reducible rfl
    try simp only [Act.put, p1, p2, p3]
    refine wpAnyH_ready (rs := [8]) (by kernel_rfl) (by simp) ?_
    refine (AllReadyH.cons (o := ?o217_0) ?i217_0 (fun K' hK => ?g217_0) AllReadyH.nil)
    case' i217_0 => simp only [g1, g2, g3]
    case i217_0 => rfl
    go_simp
    go_at_call 185
    refine (HT.out.cs.pair.splitP g2 HT.out.wf HF.out).mono ?_
    rintro e' w1 ⟨rfl, hp, hk⟩
    replace HT := Lib.hid (HT.out.step hp hk HSD.out)
    clear hp hk
    go_wp2_with fail
    refine hK.out _ _ (⟨HT.out.c0, HT.out.c1, HT.out.c2, HT.out.c3, HT.out.c4⟩) (fun hHeld => ?_)
    clear hK K'
    try simp only [Act.put, p1, p2, p3]
    refine tk1 9 (oi := ?o218) (v := ?v218) ?i218 ?w218 ?y218 ?r218
    case' i218 => simp only [g1, g2, g3]
    case i218 => rfl
    case w218 => kernel_rfl
    case y218 => (intro W hSw; go_simp) <;> with_reducible rfl
    try simp only [Act.put, p1, p2, p3]
    refine tk1 10 (oi := ?o219) (v := ?v219) ?i219 ?w219 ?y219 ?r219
    case' i219 => simp only [g1, g2, g3]
    case i219 => rfl
    case w219 => kernel_rfl
    case y219 => (intro W hSw; go_simp) <;> with_reducible rfl
    try simp only [Act.put, p1, p2, p3]
    refine tk1 11 (oi := ?o220) (v := ?v220) ?i220 ?w220 ?y220 ?r220
    case' i220 => simp only [g1, g2, g3]
    case i220 => rfl
    case w220 => kernel_rfl
    case y220 => (intro W hSw; go_simp) <;> with_reducible rfl
    try simp only [Act.put, p1, p2, p3]
    refine tk1 12 (oi := ?o221) (v := ?v221) ?i221 ?w221 ?y221 ?r221
    case' i221 => simp only [g1, g2, g3]
    case i221 => rfl
    case w221 => kernel_rfl
    case y221 => (intro W hSw; go_simp) <;> with_reducible rfl
    try simp only [Act.put, p1, p2, p3]
    refine tk1 13 (oi := ?o222) (v := ?v222) ?i222 ?w222 ?y222 ?r222
    case' i222 => simp only [g1, g2, g3]
    case i222 => rfl
    case w222 => kernel_rfl
    case y222 => (intro W hSw; go_simp) <;> with_reducible rfl
    try simp only [Act.put, p1, p2, p3]
    refine tk1 14 (oi := ?o223) (v := ?v223) ?i223 ?w223 ?y223 ?r223
    case' i223 => simp only [g1, g2, g3]
    case i223 => rfl
    case w223 => kernel_rfl
    case y223 => (intro W hSw; go_simp) <;> with_reducible rfl
    try simp only [Act.put, p1, p2, p3]
    refine tk1 15 (oi := ?o224) (v := ?v224) ?i224 ?w224 ?y224 ?r224
    case' i224 => simp only [g1, g2, g3]
    case i224 => rfl
    case w224 => kernel_rfl
    case y224 => (intro W hSw; go_simp) <;> with_reducible rfl
    try simp only [Act.put, p1, p2, p3]
    refine wpAnyH_done (by kernel_rfl) ?_ _
    go_wp2_with fail
    refine (must_no _ HE.out _).mono ?_
    rintro e' w2 ⟨rfl, rfl⟩
    unfold Fell
    go_wp2_with fail
    exact ⟨rfl, .inr ⟨_, _, HG.out, HE.out, rfl, HT.out.fall⟩⟩
end
end Go.Proofs.YtgeonppckeiceaaGreatDoor
