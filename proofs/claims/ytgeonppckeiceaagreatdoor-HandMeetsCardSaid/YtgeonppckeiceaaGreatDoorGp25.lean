/- What a talk's own steps tell, or how they fall (by tools/stage17/talk.py). -/
import Derived.Test.YtgeonppckeiceaaGreatDoorGp24
import Derived.Deep.RegionHeld3
namespace Go.Proofs.YtgeonppckeiceaaGreatDoor
open Go.RowKit
set_option linter.unusedVariables false
set_option linter.unusedSimpArgs false
set_option maxRecDepth 20000
section
variable {base g B : Nat} {most : Int} {Q2 : (Nat → Prop) → List Tm → World → Prop} {L L' L2 : List Tm} {bs : List (Nat × Obj)} {T : TypeId} {y y' : Sy} {rest : List Value} {w0 w w' : World}
set_option maxHeartbeats 1000000 in
theorem tk_text (g2 : Good base Q2) (h : Tk base g most Q2 L L2 bs B T y rest w0 w) {S : ByteArray} (hs : S.size ≤ maxLen) :
    Calls Tryz.prog 123 #[.pointer (some ⟨B, 0, none⟩), .string S] w (Gp (putG (textT S) most L) (fun x => .int .i64 x) (fun L' x w' => Tk base g most Q2 L' L2 bs B T y rest w0 w') (fun L' w' => Cs base (PSq base g most) Q2 L' L2 bs w0 w')) := by
  obtain ⟨a, e, L1, hf⟩ : ∃ a e L1, putF L most (textT S) = (a, e, L1) := ⟨_, _, _, rfl⟩
  have HSD := Lib.hid (put_sd h.cs.sound hf)
  have hfa := h.facts
  have HF := Lib.hid hf
  have HS := Lib.hid hs
  by_cases he : e = 0
  · subst he
    have HG : Hid (putG (textT S) most L = (.ok a, L1)) := Lib.hid (by unfold putG; rw [hf]; rfl)
    have HT := Lib.hid h
    clear h hf hfa hs
    go_enter Tryz.func123, Tryz.ntmps123
    have c0 := HT.out.c0
    have c1 := HT.out.c1
    have c2 := HT.out.c2
    have c3 := HT.out.c3
    have c4 := HT.out.c4
    go_wp2_with fail
    refine (HT.out.cs.pair.putP g2 (textT S) (text_wf HS.out) HF.out).mono ?_
    rintro e' w1 ⟨rfl, hp, hk⟩
    replace HT := Lib.hid (HT.out.step hp hk HSD.out)
    clear hp hk c0 c1 c2 c3 c4
    go_wp2_with fail
    refine (got_yes _ _).mono ?_
    rintro e' w2 ⟨rfl, rfl⟩
    go_wp2_with fail
    go_ret
    exact .inl ⟨_, _, HG.out, rfl, HT.out⟩
  · have HG : Hid (putG (textT S) most L = (.error e, L1)) := Lib.hid (by unfold putG; rw [hf]; exact congrArg (fun r => (r, L1)) (if_neg he))
    have HE := Lib.hid he
    have HT := Lib.hid h
    clear h hf hfa he hs
    go_enter Tryz.func123, Tryz.ntmps123
    have c0 := HT.out.c0
    have c1 := HT.out.c1
    have c2 := HT.out.c2
    have c3 := HT.out.c3
    have c4 := HT.out.c4
    go_wp2_with fail
    refine (HT.out.cs.pair.putP g2 (textT S) (text_wf HS.out) HF.out).mono ?_
    rintro e' w1 ⟨rfl, hp, hk⟩
    replace HT := Lib.hid (HT.out.step hp hk HSD.out)
    clear hp hk c0 c1 c2 c3 c4
    go_wp2_with fail
    refine (got_no _ _ HE.out _).mono ?_
    rintro e' w2 ⟨rfl, rfl⟩
    unfold Fell
    go_wp2_with fail
    exact ⟨rfl, .inr ⟨_, _, HG.out, HE.out, rfl, HT.out.fall⟩⟩
set_option maxHeartbeats 2000000 in
theorem tk_hash (g2 : Good base Q2) (h : Tk base g most Q2 L L2 bs B T y rest w0 w) {x : Int} (hx : I64 x) :
    Calls Tryz.prog 136 #[.pointer (some ⟨B, 0, none⟩), .int .i64 x] w (Gp (sayG y x most L) (fun _ => .tuple #[]) (fun L' x w' => Tk base g most Q2 L' L2 bs B T x rest w0 w') (fun L' w' => Cs base (PSq base g most) Q2 L' L2 bs w0 w')) := by
  obtain ⟨z, e, L1, hf⟩ : ∃ z e L1, sayF L most y x = (z, e, L1) := ⟨_, _, _, rfl⟩
  have HSD := Lib.hid (say_sd h.cs.sound hf)
  have hfa := h.facts
  have HF := Lib.hid hf
  have HX := Lib.hid hx
  by_cases he : e = 0
  · subst he
    have HG : Hid (sayG y x most L = (.ok z, L1)) := Lib.hid (by unfold sayG; rw [hf]; rfl)
    have HW := Lib.hid (say_wf hfa.2.1 hfa.2.2 h.wf hf)
    have HT := Lib.hid h
    clear h hf hfa hx
    go_enter Tryz.func136, Tryz.ntmps136
    replace HT := Lib.hid (HT.out.drew g2)
    have c0 := HT.out.c0
    have c1 := HT.out.c1
    have c2 := HT.out.c2
    have c3 := HT.out.c3
    have c4 := HT.out.c4
    refine wp_region_held_drew (S := fun _ => True) (by kernel_rfl) (trivial) (fun hHeld => ?_)
    refine tk1 0 (oi := ?o1) (v := ?v1) ?i1 ?w1 ?y1 ?r1
    case' i1 => simp only [g1, g2, g3]
    case i1 => rfl
    case w1 => kernel_rfl
    case y1 => (intro W hSw; go_simp) <;> with_reducible rfl
    try simp only [Act.put, p1, p2, p3]
    refine tk1 1 (oi := ?o2) (v := ?v2) ?i2 ?w2 ?y2 ?r2
    case' i2 => simp only [g1, g2, g3]
    case i2 => rfl
    case w2 => kernel_rfl
    case y2 => (intro W hSw; go_simp) <;> with_reducible rfl
    try simp only [Act.put, p1, p2, p3]
    refine tk1 2 (oi := ?o3) (v := ?v3) ?i3 ?w3 ?y3 ?r3
    case' i3 => simp only [g1, g2, g3]
    case i3 => rfl
    case w3 => kernel_rfl
    case y3 => (intro W hSw; go_simp) <;> with_reducible rfl
    try simp only [Act.put, p1, p2, p3]
    refine tk1 3 (oi := ?o4) (v := ?v4) ?i4 ?w4 ?y4 ?r4
    case' i4 => simp only [g1, g2, g3]
    case i4 => rfl
    case w4 => kernel_rfl
    case y4 => (intro W hSw; go_simp) <;> with_reducible rfl
    try simp only [Act.put, p1, p2, p3]
    refine tk1 5 (oi := ?o5) (v := ?v5) ?i5 ?w5 ?y5 ?r5
    case' i5 => simp only [g1, g2, g3]
    case i5 => rfl
    case w5 => kernel_rfl
    case y5 => (intro W hSw; go_simp) <;> with_reducible rfl
    try simp only [Act.put, p1, p2, p3]
    refine tk1 6 (oi := ?o6) (v := ?v6) ?i6 ?w6 ?y6 ?r6
    case' i6 => simp only [g1, g2, g3]
    case i6 => rfl
    case w6 => kernel_rfl
    case y6 => (intro W hSw; go_simp) <;> with_reducible rfl
    try simp only [Act.put, p1, p2, p3]
    refine tk1 7 (oi := ?o7) (v := ?v7) ?i7 ?w7 ?y7 ?r7
    case' i7 => simp only [g1, g2, g3]
    case i7 => rfl
    case w7 => kernel_rfl
    case y7 => (intro W hSw; go_simp) <;> with_reducible rfl
    try simp only [Act.put, p1, p2, p3]
    refine tk1 9 (oi := ?o8) (v := ?v8) ?i8 ?w8 ?y8 ?r8
    case' i8 => simp only [g1, g2, g3]
    case i8 => rfl
    case w8 => kernel_rfl
    case y8 => (intro W hSw; go_simp) <;> with_reducible rfl
    try simp only [Act.put, p1, p2, p3]
    refine wpAnyH_ready (rs := [4, 8]) (by kernel_rfl) (by simp) ?_
    refine (AllReadyH.cons (o := ?o9_0) ?i9_0 (fun K' hK => ?g9_0) (AllReadyH.cons (o := ?o9_1) ?i9_1 (fun K' hK => ?g9_1) AllReadyH.nil))
    case' i9_0 => simp only [g1, g2, g3]
    case i9_0 => rfl
    case' i9_1 => simp only [g1, g2, g3]
    case i9_1 => rfl
    case g9_0 =>
      go_simp
      refine hK.out _ _ (trivial) (fun hHeld => ?_)
      clear hK K'
      try simp only [Act.put, p1, p2, p3]
      refine wpAnyH_ready (rs := [8]) (by kernel_rfl) (by simp) ?_
      refine (AllReadyH.cons (o := ?o10_0) ?i10_0 (fun K' hK => ?g10_0) AllReadyH.nil)
      case' i10_0 => simp only [g1, g2, g3]
      case i10_0 => rfl
      go_simp
      refine hK.out _ _ (trivial) (fun hHeld => ?_)
      clear hK K'
      try simp only [Act.put, p1, p2, p3]
      refine wpAnyH_ready (rs := [10]) (by kernel_rfl) (by simp) ?_
      refine (AllReadyH.cons (o := ?o11_0) ?i11_0 (fun K' hK => ?g11_0) AllReadyH.nil)
      case' i11_0 => simp only [g1, g2, g3]
      case i11_0 => rfl
      go_simp
      go_at_call 180
      refine (HT.out.cs.pair.sayP g2 HT.out.wf HX.out HF.out).mono ?_
      rintro e' w1 ⟨rfl, hp, hk⟩
      replace HT := Lib.hid (HT.out.step hp hk HSD.out)
      clear hp hk c0 c1 c2 c3 c4
      go_wp2_with fail
      refine hK.out _ _ (trivial) (fun hHeld => ?_)
      clear hK K'
      try simp only [Act.put, p1, p2, p3]
      refine tk1 11 (oi := ?o12) (v := ?v12) ?i12 ?w12 ?y12 ?r12
      case' i12 => simp only [g1, g2, g3]
      case i12 => rfl
      case w12 => kernel_rfl
      case y12 => (intro W hSw; go_simp) <;> with_reducible rfl
      try simp only [Act.put, p1, p2, p3]
      refine tk1 12 (oi := ?o13) (v := ?v13) ?i13 ?w13 ?y13 ?r13
      case' i13 => simp only [g1, g2, g3]
      case i13 => rfl
      case w13 => kernel_rfl
      case y13 => (intro W hSw; go_simp) <;> with_reducible rfl
      try simp only [Act.put, p1, p2, p3]
      refine wpAnyH_ready (rs := [13]) (by kernel_rfl) (by simp) ?_
      refine (AllReadyH.cons (o := ?o14_0) ?i14_0 (fun K' hK => ?g14_0) AllReadyH.nil)
      case' i14_0 => simp only [g1, g2, g3]
      case i14_0 => rfl
      go_simp
      go_at_call 166
      refine (gotY_yes _ _ _ _ _).mono ?_
      rintro e' w2 ⟨rfl, hb⟩
      replace HT := Lib.hid (HT.out.below g2 hb)
      clear hb
      have d0 := HT.out.c0
      have d1 := HT.out.c1
      have d2 := HT.out.c2
      have d3 := HT.out.c3
      have d4 := HT.out.c4
      have f1 := HT.out.fz 1
      have f2 := HT.out.fz 2
      have f3 := HT.out.fz 3
      have f4 := HT.out.fz 4
      go_wp2_with fail
      refine hK.out _ _ (trivial) (fun hHeld => ?_)
      clear hK K'
      try simp only [Act.put, p1, p2, p3]
      refine tk1 14 (oi := ?o15) (v := ?v15) ?i15 ?w15 ?y15 ?r15
      case' i15 => simp only [g1, g2, g3]
      case i15 => rfl
      case w15 => kernel_rfl
      case y15 => (intro W hSw; go_simp) <;> with_reducible rfl
      try simp only [Act.put, p1, p2, p3]
      refine tk1 15 (oi := ?o16) (v := ?v16) ?i16 ?w16 ?y16 ?r16
      case' i16 => simp only [g1, g2, g3]
      case i16 => rfl
      case w16 => kernel_rfl
      case y16 => (intro W hSw; go_simp) <;> with_reducible rfl
      try simp only [Act.put, p1, p2, p3]
      refine wpAnyH_ready (rs := [16]) (by kernel_rfl) (by simp) ?_
      refine (AllReadyH.cons (o := ?o17_0) ?i17_0 (fun K' hK => ?g17_0) AllReadyH.nil)
      case' i17_0 => simp only [g1, g2, g3]
      case i17_0 => rfl
      go_simp
      refine hK.out _ _ (trivial) (fun hHeld => ?_)
      clear hK K'
      try simp only [Act.put, p1, p2, p3]
      refine wpAnyH_done (by kernel_rfl) ?_ _
      go_wp2_with fail
      go_end0
      exact .inl ⟨_, _, HG.out, rfl, HT.out.put4 g2 HW.out⟩
    case g9_1 =>
      go_simp
      refine hK.out _ _ (trivial) (fun hHeld => ?_)
      clear hK K'
      try simp only [Act.put, p1, p2, p3]
      refine wpAnyH_ready (rs := [4]) (by kernel_rfl) (by simp) ?_
      refine (AllReadyH.cons (o := ?o18_0) ?i18_0 (fun K' hK => ?g18_0) AllReadyH.nil)
      case' i18_0 => simp only [g1, g2, g3]
      case i18_0 => rfl
      go_simp
      refine hK.out _ _ (trivial) (fun hHeld => ?_)
      clear hK K'
      try simp only [Act.put, p1, p2, p3]
      refine wpAnyH_ready (rs := [10]) (by kernel_rfl) (by simp) ?_
      refine (AllReadyH.cons (o := ?o19_0) ?i19_0 (fun K' hK => ?g19_0) AllReadyH.nil)
      case' i19_0 => simp only [g1, g2, g3]
      case i19_0 => rfl
      go_simp
      go_at_call 180
      refine (HT.out.cs.pair.sayP g2 HT.out.wf HX.out HF.out).mono ?_
      rintro e' w1 ⟨rfl, hp, hk⟩
      replace HT := Lib.hid (HT.out.step hp hk HSD.out)
      clear hp hk c0 c1 c2 c3 c4
      go_wp2_with fail
      refine hK.out _ _ (trivial) (fun hHeld => ?_)
      clear hK K'
      try simp only [Act.put, p1, p2, p3]
      refine tk1 11 (oi := ?o20) (v := ?v20) ?i20 ?w20 ?y20 ?r20
      case' i20 => simp only [g1, g2, g3]
      case i20 => rfl
      case w20 => kernel_rfl
      case y20 => (intro W hSw; go_simp) <;> with_reducible rfl
      try simp only [Act.put, p1, p2, p3]
      refine tk1 12 (oi := ?o21) (v := ?v21) ?i21 ?w21 ?y21 ?r21
      case' i21 => simp only [g1, g2, g3]
      case i21 => rfl
      case w21 => kernel_rfl
      case y21 => (intro W hSw; go_simp) <;> with_reducible rfl
      try simp only [Act.put, p1, p2, p3]
      refine wpAnyH_ready (rs := [13]) (by kernel_rfl) (by simp) ?_
      refine (AllReadyH.cons (o := ?o22_0) ?i22_0 (fun K' hK => ?g22_0) AllReadyH.nil)
      case' i22_0 => simp only [g1, g2, g3]
      case i22_0 => rfl
      go_simp
      go_at_call 166
      refine (gotY_yes _ _ _ _ _).mono ?_
      rintro e' w2 ⟨rfl, hb⟩
      replace HT := Lib.hid (HT.out.below g2 hb)
      clear hb
      have d0 := HT.out.c0
      have d1 := HT.out.c1
      have d2 := HT.out.c2
      have d3 := HT.out.c3
      have d4 := HT.out.c4
      have f1 := HT.out.fz 1
      have f2 := HT.out.fz 2
      have f3 := HT.out.fz 3
      have f4 := HT.out.fz 4
      go_wp2_with fail
      refine hK.out _ _ (trivial) (fun hHeld => ?_)
      clear hK K'
      try simp only [Act.put, p1, p2, p3]
      refine tk1 14 (oi := ?o23) (v := ?v23) ?i23 ?w23 ?y23 ?r23
      case' i23 => simp only [g1, g2, g3]
      case i23 => rfl
      case w23 => kernel_rfl
      case y23 => (intro W hSw; go_simp) <;> with_reducible rfl
      try simp only [Act.put, p1, p2, p3]
      refine tk1 15 (oi := ?o24) (v := ?v24) ?i24 ?w24 ?y24 ?r24
      case' i24 => simp only [g1, g2, g3]
      case i24 => rfl
      case w24 => kernel_rfl
      case y24 => (intro W hSw; go_simp) <;> with_reducible rfl
      try simp only [Act.put, p1, p2, p3]
      refine wpAnyH_ready (rs := [16]) (by kernel_rfl) (by simp) ?_
      refine (AllReadyH.cons (o := ?o25_0) ?i25_0 (fun K' hK => ?g25_0) AllReadyH.nil)
      case' i25_0 => simp only [g1, g2, g3]
      case i25_0 => rfl
      go_simp
      refine hK.out _ _ (trivial) (fun hHeld => ?_)
      clear hK K'
      try simp only [Act.put, p1, p2, p3]
      refine wpAnyH_done (by kernel_rfl) ?_ _
      go_wp2_with fail
      go_end0
      exact .inl ⟨_, _, HG.out, rfl, HT.out.put4 g2 HW.out⟩
  · have HG : Hid (sayG y x most L = (.error e, L1)) := Lib.hid (by unfold sayG; rw [hf]; exact congrArg (fun r => (r, L1)) (if_neg he))
    have HE := Lib.hid he
    have HT := Lib.hid h
    clear h hf hfa he hx
    go_enter Tryz.func136, Tryz.ntmps136
    replace HT := Lib.hid (HT.out.drew g2)
    have c0 := HT.out.c0
    have c1 := HT.out.c1
    have c2 := HT.out.c2
    have c3 := HT.out.c3
    have c4 := HT.out.c4
    refine wp_region_held_drew (S := fun _ => True) (by kernel_rfl) (trivial) (fun hHeld => ?_)
    refine tk1 0 (oi := ?o26) (v := ?v26) ?i26 ?w26 ?y26 ?r26
    case' i26 => simp only [g1, g2, g3]
    case i26 => rfl
    case w26 => kernel_rfl
    case y26 => (intro W hSw; go_simp) <;> with_reducible rfl
    try simp only [Act.put, p1, p2, p3]
    refine tk1 1 (oi := ?o27) (v := ?v27) ?i27 ?w27 ?y27 ?r27
    case' i27 => simp only [g1, g2, g3]
    case i27 => rfl
    case w27 => kernel_rfl
    case y27 => (intro W hSw; go_simp) <;> with_reducible rfl
    try simp only [Act.put, p1, p2, p3]
    refine tk1 2 (oi := ?o28) (v := ?v28) ?i28 ?w28 ?y28 ?r28
    case' i28 => simp only [g1, g2, g3]
    case i28 => rfl
    case w28 => kernel_rfl
    case y28 => (intro W hSw; go_simp) <;> with_reducible rfl
    try simp only [Act.put, p1, p2, p3]
    refine tk1 3 (oi := ?o29) (v := ?v29) ?i29 ?w29 ?y29 ?r29
    case' i29 => simp only [g1, g2, g3]
    case i29 => rfl
    case w29 => kernel_rfl
    case y29 => (intro W hSw; go_simp) <;> with_reducible rfl
    try simp only [Act.put, p1, p2, p3]
    refine tk1 5 (oi := ?o30) (v := ?v30) ?i30 ?w30 ?y30 ?r30
    case' i30 => simp only [g1, g2, g3]
    case i30 => rfl
    case w30 => kernel_rfl
    case y30 => (intro W hSw; go_simp) <;> with_reducible rfl
    try simp only [Act.put, p1, p2, p3]
    refine tk1 6 (oi := ?o31) (v := ?v31) ?i31 ?w31 ?y31 ?r31
    case' i31 => simp only [g1, g2, g3]
    case i31 => rfl
    case w31 => kernel_rfl
    case y31 => (intro W hSw; go_simp) <;> with_reducible rfl
    try simp only [Act.put, p1, p2, p3]
    refine tk1 7 (oi := ?o32) (v := ?v32) ?i32 ?w32 ?y32 ?r32
    case' i32 => simp only [g1, g2, g3]
    case i32 => rfl
    case w32 => kernel_rfl
    case y32 => (intro W hSw; go_simp) <;> with_reducible rfl
    try simp only [Act.put, p1, p2, p3]
    refine tk1 9 (oi := ?o33) (v := ?v33) ?i33 ?w33 ?y33 ?r33
    case' i33 => simp only [g1, g2, g3]
    case i33 => rfl
    case w33 => kernel_rfl
    case y33 => (intro W hSw; go_simp) <;> with_reducible rfl
    try simp only [Act.put, p1, p2, p3]
    refine wpAnyH_ready (rs := [4, 8]) (by kernel_rfl) (by simp) ?_
    refine (AllReadyH.cons (o := ?o34_0) ?i34_0 (fun K' hK => ?g34_0) (AllReadyH.cons (o := ?o34_1) ?i34_1 (fun K' hK => ?g34_1) AllReadyH.nil))
    case' i34_0 => simp only [g1, g2, g3]
    case i34_0 => rfl
    case' i34_1 => simp only [g1, g2, g3]
    case i34_1 => rfl
    case g34_0 =>
      go_simp
      refine hK.out _ _ (trivial) (fun hHeld => ?_)
      clear hK K'
      try simp only [Act.put, p1, p2, p3]
      refine wpAnyH_ready (rs := [8]) (by kernel_rfl) (by simp) ?_
      refine (AllReadyH.cons (o := ?o35_0) ?i35_0 (fun K' hK => ?g35_0) AllReadyH.nil)
      case' i35_0 => simp only [g1, g2, g3]
      case i35_0 => rfl
      go_simp
      refine hK.out _ _ (trivial) (fun hHeld => ?_)
      clear hK K'
      try simp only [Act.put, p1, p2, p3]
      refine wpAnyH_ready (rs := [10]) (by kernel_rfl) (by simp) ?_
      refine (AllReadyH.cons (o := ?o36_0) ?i36_0 (fun K' hK => ?g36_0) AllReadyH.nil)
      case' i36_0 => simp only [g1, g2, g3]
      case i36_0 => rfl
      go_simp
      go_at_call 180
      refine (HT.out.cs.pair.sayP g2 HT.out.wf HX.out HF.out).mono ?_
      rintro e' w1 ⟨rfl, hp, hk⟩
      replace HT := Lib.hid (HT.out.step hp hk HSD.out)
      clear hp hk c0 c1 c2 c3 c4
      go_wp2_with fail
      refine hK.out _ _ (trivial) (fun hHeld => ?_)
      clear hK K'
      try simp only [Act.put, p1, p2, p3]
      refine tk1 11 (oi := ?o37) (v := ?v37) ?i37 ?w37 ?y37 ?r37
      case' i37 => simp only [g1, g2, g3]
      case i37 => rfl
      case w37 => kernel_rfl
      case y37 => (intro W hSw; go_simp) <;> with_reducible rfl
      try simp only [Act.put, p1, p2, p3]
      refine tk1 12 (oi := ?o38) (v := ?v38) ?i38 ?w38 ?y38 ?r38
      case' i38 => simp only [g1, g2, g3]
      case i38 => rfl
      case w38 => kernel_rfl
      case y38 => (intro W hSw; go_simp) <;> with_reducible rfl
      try simp only [Act.put, p1, p2, p3]
      refine wpAnyH_ready (rs := [13]) (by kernel_rfl) (by simp) ?_
      refine (AllReadyH.cons (o := ?o39_0) ?i39_0 (fun K' hK => ?g39_0) AllReadyH.nil)
      case' i39_0 => simp only [g1, g2, g3]
      case i39_0 => rfl
      go_simp
      go_at_call 166
      refine (gotY_no _ _ _ _ _ HE.out _).mono ?_
      rintro e' w2 ⟨rfl, hb⟩
      replace HT := Lib.hid (HT.out.below g2 hb)
      clear hb
      unfold Fell
      go_wp2_with fail
      exact ⟨rfl, .inr ⟨_, _, HG.out, HE.out, rfl, HT.out.fall⟩⟩
    case g34_1 =>
      go_simp
      refine hK.out _ _ (trivial) (fun hHeld => ?_)
      clear hK K'
      try simp only [Act.put, p1, p2, p3]
      refine wpAnyH_ready (rs := [4]) (by kernel_rfl) (by simp) ?_
      refine (AllReadyH.cons (o := ?o40_0) ?i40_0 (fun K' hK => ?g40_0) AllReadyH.nil)
      case' i40_0 => simp only [g1, g2, g3]
      case i40_0 => rfl
      go_simp
      refine hK.out _ _ (trivial) (fun hHeld => ?_)
      clear hK K'
      try simp only [Act.put, p1, p2, p3]
      refine wpAnyH_ready (rs := [10]) (by kernel_rfl) (by simp) ?_
      refine (AllReadyH.cons (o := ?o41_0) ?i41_0 (fun K' hK => ?g41_0) AllReadyH.nil)
      case' i41_0 => simp only [g1, g2, g3]
      case i41_0 => rfl
      go_simp
      go_at_call 180
      refine (HT.out.cs.pair.sayP g2 HT.out.wf HX.out HF.out).mono ?_
      rintro e' w1 ⟨rfl, hp, hk⟩
      replace HT := Lib.hid (HT.out.step hp hk HSD.out)
      clear hp hk c0 c1 c2 c3 c4
      go_wp2_with fail
      refine hK.out _ _ (trivial) (fun hHeld => ?_)
      clear hK K'
      try simp only [Act.put, p1, p2, p3]
      refine tk1 11 (oi := ?o42) (v := ?v42) ?i42 ?w42 ?y42 ?r42
      case' i42 => simp only [g1, g2, g3]
      case i42 => rfl
      case w42 => kernel_rfl
      case y42 => (intro W hSw; go_simp) <;> with_reducible rfl
      try simp only [Act.put, p1, p2, p3]
      refine tk1 12 (oi := ?o43) (v := ?v43) ?i43 ?w43 ?y43 ?r43
      case' i43 => simp only [g1, g2, g3]
      case i43 => rfl
      case w43 => kernel_rfl
      case y43 => (intro W hSw; go_simp) <;> with_reducible rfl
      try simp only [Act.put, p1, p2, p3]
      refine wpAnyH_ready (rs := [13]) (by kernel_rfl) (by simp) ?_
      refine (AllReadyH.cons (o := ?o44_0) ?i44_0 (fun K' hK => ?g44_0) AllReadyH.nil)
      case' i44_0 => simp only [g1, g2, g3]
      case i44_0 => rfl
      go_simp
      go_at_call 166
      refine (gotY_no _ _ _ _ _ HE.out _).mono ?_
      rintro e' w2 ⟨rfl, hb⟩
      replace HT := Lib.hid (HT.out.below g2 hb)
      clear hb
      unfold Fell
      go_wp2_with fail
      exact ⟨rfl, .inr ⟨_, _, HG.out, HE.out, rfl, HT.out.fall⟩⟩
set_option maxHeartbeats 2000000 in
theorem tk_mix (g2 : Good base Q2) (h : Tk base g most Q2 L L2 bs B T y rest w0 w) {x : Int} (hx : I64 x) :
    Calls Tryz.prog 122 #[.pointer (some ⟨B, 0, none⟩), .int .i64 x] w (Gp (turnG y x most L) (fun _ => .tuple #[]) (fun L' x w' => Tk base g most Q2 L' L2 bs B T x rest w0 w') (fun L' w' => Cs base (PSq base g most) Q2 L' L2 bs w0 w')) := by
  obtain ⟨z, e, L1, hf⟩ : ∃ z e L1, turnF L most y x = (z, e, L1) := ⟨_, _, _, rfl⟩
  have HSD := Lib.hid (turn_sd h.cs.sound hf)
  have hfa := h.facts
  have HF := Lib.hid hf
  have HX := Lib.hid hx
  by_cases he : e = 0
  · subst he
    have HG : Hid (turnG y x most L = (.ok z, L1)) := Lib.hid (by unfold turnG; rw [hf]; rfl)
    have HW := Lib.hid (turn_wf hfa.2.1 hfa.2.2 hfa.1 h.wf hf)
    have HT := Lib.hid h
    clear h hf hfa hx
    go_enter Tryz.func122, Tryz.ntmps122
    replace HT := Lib.hid (HT.out.drew g2)
    have c0 := HT.out.c0
    have c1 := HT.out.c1
    have c2 := HT.out.c2
    have c3 := HT.out.c3
    have c4 := HT.out.c4
    refine wp_region_held_drew (S := fun _ => True) (by kernel_rfl) (trivial) (fun hHeld => ?_)
    refine tk1 0 (oi := ?o45) (v := ?v45) ?i45 ?w45 ?y45 ?r45
    case' i45 => simp only [g1, g2, g3]
    case i45 => rfl
    case w45 => kernel_rfl
    case y45 => (intro W hSw; go_simp) <;> with_reducible rfl
    try simp only [Act.put, p1, p2, p3]
    refine tk1 1 (oi := ?o46) (v := ?v46) ?i46 ?w46 ?y46 ?r46
    case' i46 => simp only [g1, g2, g3]
    case i46 => rfl
    case w46 => kernel_rfl
    case y46 => (intro W hSw; go_simp) <;> with_reducible rfl
    try simp only [Act.put, p1, p2, p3]
    refine tk1 2 (oi := ?o47) (v := ?v47) ?i47 ?w47 ?y47 ?r47
    case' i47 => simp only [g1, g2, g3]
    case i47 => rfl
    case w47 => kernel_rfl
    case y47 => (intro W hSw; go_simp) <;> with_reducible rfl
    try simp only [Act.put, p1, p2, p3]
    refine tk1 3 (oi := ?o48) (v := ?v48) ?i48 ?w48 ?y48 ?r48
    case' i48 => simp only [g1, g2, g3]
    case i48 => rfl
    case w48 => kernel_rfl
    case y48 => (intro W hSw; go_simp) <;> with_reducible rfl
    try simp only [Act.put, p1, p2, p3]
    refine tk1 5 (oi := ?o49) (v := ?v49) ?i49 ?w49 ?y49 ?r49
    case' i49 => simp only [g1, g2, g3]
    case i49 => rfl
    case w49 => kernel_rfl
    case y49 => (intro W hSw; go_simp) <;> with_reducible rfl
    try simp only [Act.put, p1, p2, p3]
    refine tk1 6 (oi := ?o50) (v := ?v50) ?i50 ?w50 ?y50 ?r50
    case' i50 => simp only [g1, g2, g3]
    case i50 => rfl
    case w50 => kernel_rfl
    case y50 => (intro W hSw; go_simp) <;> with_reducible rfl
    try simp only [Act.put, p1, p2, p3]
    refine tk1 7 (oi := ?o51) (v := ?v51) ?i51 ?w51 ?y51 ?r51
    case' i51 => simp only [g1, g2, g3]
    case i51 => rfl
    case w51 => kernel_rfl
    case y51 => (intro W hSw; go_simp) <;> with_reducible rfl
    try simp only [Act.put, p1, p2, p3]
    refine tk1 9 (oi := ?o52) (v := ?v52) ?i52 ?w52 ?y52 ?r52
    case' i52 => simp only [g1, g2, g3]
    case i52 => rfl
    case w52 => kernel_rfl
    case y52 => (intro W hSw; go_simp) <;> with_reducible rfl
    try simp only [Act.put, p1, p2, p3]
    refine wpAnyH_ready (rs := [4, 8]) (by kernel_rfl) (by simp) ?_
    refine (AllReadyH.cons (o := ?o53_0) ?i53_0 (fun K' hK => ?g53_0) (AllReadyH.cons (o := ?o53_1) ?i53_1 (fun K' hK => ?g53_1) AllReadyH.nil))
    case' i53_0 => simp only [g1, g2, g3]
    case i53_0 => rfl
    case' i53_1 => simp only [g1, g2, g3]
    case i53_1 => rfl
    case g53_0 =>
      go_simp
      refine hK.out _ _ (trivial) (fun hHeld => ?_)
      clear hK K'
      try simp only [Act.put, p1, p2, p3]
      refine wpAnyH_ready (rs := [8]) (by kernel_rfl) (by simp) ?_
      refine (AllReadyH.cons (o := ?o54_0) ?i54_0 (fun K' hK => ?g54_0) AllReadyH.nil)
      case' i54_0 => simp only [g1, g2, g3]
      case i54_0 => rfl
      go_simp
      refine hK.out _ _ (trivial) (fun hHeld => ?_)
      clear hK K'
      try simp only [Act.put, p1, p2, p3]
      refine wpAnyH_ready (rs := [10]) (by kernel_rfl) (by simp) ?_
      refine (AllReadyH.cons (o := ?o55_0) ?i55_0 (fun K' hK => ?g55_0) AllReadyH.nil)
      case' i55_0 => simp only [g1, g2, g3]
      case i55_0 => rfl
      go_simp
      go_at_call 173
      refine (HT.out.cs.pair.turnP g2 HT.out.wf HX.out HF.out).mono ?_
      rintro e' w1 ⟨rfl, hp, hk⟩
      replace HT := Lib.hid (HT.out.step hp hk HSD.out)
      clear hp hk c0 c1 c2 c3 c4
      go_wp2_with fail
      refine hK.out _ _ (trivial) (fun hHeld => ?_)
      clear hK K'
      try simp only [Act.put, p1, p2, p3]
      refine tk1 11 (oi := ?o56) (v := ?v56) ?i56 ?w56 ?y56 ?r56
      case' i56 => simp only [g1, g2, g3]
      case i56 => rfl
      case w56 => kernel_rfl
      case y56 => (intro W hSw; go_simp) <;> with_reducible rfl
      try simp only [Act.put, p1, p2, p3]
      refine tk1 12 (oi := ?o57) (v := ?v57) ?i57 ?w57 ?y57 ?r57
      case' i57 => simp only [g1, g2, g3]
      case i57 => rfl
      case w57 => kernel_rfl
      case y57 => (intro W hSw; go_simp) <;> with_reducible rfl
      try simp only [Act.put, p1, p2, p3]
      refine wpAnyH_ready (rs := [13]) (by kernel_rfl) (by simp) ?_
      refine (AllReadyH.cons (o := ?o58_0) ?i58_0 (fun K' hK => ?g58_0) AllReadyH.nil)
      case' i58_0 => simp only [g1, g2, g3]
      case i58_0 => rfl
      go_simp
      go_at_call 166
      refine (gotY_yes _ _ _ _ _).mono ?_
      rintro e' w2 ⟨rfl, hb⟩
      replace HT := Lib.hid (HT.out.below g2 hb)
      clear hb
      have d0 := HT.out.c0
      have d1 := HT.out.c1
      have d2 := HT.out.c2
      have d3 := HT.out.c3
      have d4 := HT.out.c4
      have f1 := HT.out.fz 1
      have f2 := HT.out.fz 2
      have f3 := HT.out.fz 3
      have f4 := HT.out.fz 4
      go_wp2_with fail
      refine hK.out _ _ (trivial) (fun hHeld => ?_)
      clear hK K'
      try simp only [Act.put, p1, p2, p3]
      refine tk1 14 (oi := ?o59) (v := ?v59) ?i59 ?w59 ?y59 ?r59
      case' i59 => simp only [g1, g2, g3]
      case i59 => rfl
      case w59 => kernel_rfl
      case y59 => (intro W hSw; go_simp) <;> with_reducible rfl
      try simp only [Act.put, p1, p2, p3]
      refine tk1 15 (oi := ?o60) (v := ?v60) ?i60 ?w60 ?y60 ?r60
      case' i60 => simp only [g1, g2, g3]
      case i60 => rfl
      case w60 => kernel_rfl
      case y60 => (intro W hSw; go_simp) <;> with_reducible rfl
      try simp only [Act.put, p1, p2, p3]
      refine wpAnyH_ready (rs := [16]) (by kernel_rfl) (by simp) ?_
      refine (AllReadyH.cons (o := ?o61_0) ?i61_0 (fun K' hK => ?g61_0) AllReadyH.nil)
      case' i61_0 => simp only [g1, g2, g3]
      case i61_0 => rfl
      go_simp
      refine hK.out _ _ (trivial) (fun hHeld => ?_)
      clear hK K'
      try simp only [Act.put, p1, p2, p3]
      refine wpAnyH_done (by kernel_rfl) ?_ _
      go_wp2_with fail
      go_end0
      exact .inl ⟨_, _, HG.out, rfl, HT.out.put4 g2 HW.out⟩
    case g53_1 =>
      go_simp
      refine hK.out _ _ (trivial) (fun hHeld => ?_)
      clear hK K'
      try simp only [Act.put, p1, p2, p3]
      refine wpAnyH_ready (rs := [4]) (by kernel_rfl) (by simp) ?_
      refine (AllReadyH.cons (o := ?o62_0) ?i62_0 (fun K' hK => ?g62_0) AllReadyH.nil)
      case' i62_0 => simp only [g1, g2, g3]
      case i62_0 => rfl
      go_simp
      refine hK.out _ _ (trivial) (fun hHeld => ?_)
      clear hK K'
      try simp only [Act.put, p1, p2, p3]
      refine wpAnyH_ready (rs := [10]) (by kernel_rfl) (by simp) ?_
      refine (AllReadyH.cons (o := ?o63_0) ?i63_0 (fun K' hK => ?g63_0) AllReadyH.nil)
      case' i63_0 => simp only [g1, g2, g3]
      case i63_0 => rfl
      go_simp
      go_at_call 173
      refine (HT.out.cs.pair.turnP g2 HT.out.wf HX.out HF.out).mono ?_
      rintro e' w1 ⟨rfl, hp, hk⟩
      replace HT := Lib.hid (HT.out.step hp hk HSD.out)
      clear hp hk c0 c1 c2 c3 c4
      go_wp2_with fail
      refine hK.out _ _ (trivial) (fun hHeld => ?_)
      clear hK K'
      try simp only [Act.put, p1, p2, p3]
      refine tk1 11 (oi := ?o64) (v := ?v64) ?i64 ?w64 ?y64 ?r64
      case' i64 => simp only [g1, g2, g3]
      case i64 => rfl
      case w64 => kernel_rfl
      case y64 => (intro W hSw; go_simp) <;> with_reducible rfl
      try simp only [Act.put, p1, p2, p3]
      refine tk1 12 (oi := ?o65) (v := ?v65) ?i65 ?w65 ?y65 ?r65
      case' i65 => simp only [g1, g2, g3]
      case i65 => rfl
      case w65 => kernel_rfl
      case y65 => (intro W hSw; go_simp) <;> with_reducible rfl
      try simp only [Act.put, p1, p2, p3]
      refine wpAnyH_ready (rs := [13]) (by kernel_rfl) (by simp) ?_
      refine (AllReadyH.cons (o := ?o66_0) ?i66_0 (fun K' hK => ?g66_0) AllReadyH.nil)
      case' i66_0 => simp only [g1, g2, g3]
      case i66_0 => rfl
      go_simp
      go_at_call 166
      refine (gotY_yes _ _ _ _ _).mono ?_
      rintro e' w2 ⟨rfl, hb⟩
      replace HT := Lib.hid (HT.out.below g2 hb)
      clear hb
      have d0 := HT.out.c0
      have d1 := HT.out.c1
      have d2 := HT.out.c2
      have d3 := HT.out.c3
      have d4 := HT.out.c4
      have f1 := HT.out.fz 1
      have f2 := HT.out.fz 2
      have f3 := HT.out.fz 3
      have f4 := HT.out.fz 4
      go_wp2_with fail
      refine hK.out _ _ (trivial) (fun hHeld => ?_)
      clear hK K'
      try simp only [Act.put, p1, p2, p3]
      refine tk1 14 (oi := ?o67) (v := ?v67) ?i67 ?w67 ?y67 ?r67
      case' i67 => simp only [g1, g2, g3]
      case i67 => rfl
      case w67 => kernel_rfl
      case y67 => (intro W hSw; go_simp) <;> with_reducible rfl
      try simp only [Act.put, p1, p2, p3]
      refine tk1 15 (oi := ?o68) (v := ?v68) ?i68 ?w68 ?y68 ?r68
      case' i68 => simp only [g1, g2, g3]
      case i68 => rfl
      case w68 => kernel_rfl
      case y68 => (intro W hSw; go_simp) <;> with_reducible rfl
      try simp only [Act.put, p1, p2, p3]
      refine wpAnyH_ready (rs := [16]) (by kernel_rfl) (by simp) ?_
      refine (AllReadyH.cons (o := ?o69_0) ?i69_0 (fun K' hK => ?g69_0) AllReadyH.nil)
      case' i69_0 => simp only [g1, g2, g3]
      case i69_0 => rfl
      go_simp
      refine hK.out _ _ (trivial) (fun hHeld => ?_)
      clear hK K'
      try simp only [Act.put, p1, p2, p3]
      refine wpAnyH_done (by kernel_rfl) ?_ _
      go_wp2_with fail
      go_end0
      exact .inl ⟨_, _, HG.out, rfl, HT.out.put4 g2 HW.out⟩
  · have HG : Hid (turnG y x most L = (.error e, L1)) := Lib.hid (by unfold turnG; rw [hf]; exact congrArg (fun r => (r, L1)) (if_neg he))
    have HE := Lib.hid he
    have HT := Lib.hid h
    clear h hf hfa he hx
    go_enter Tryz.func122, Tryz.ntmps122
    replace HT := Lib.hid (HT.out.drew g2)
    have c0 := HT.out.c0
    have c1 := HT.out.c1
    have c2 := HT.out.c2
    have c3 := HT.out.c3
    have c4 := HT.out.c4
    refine wp_region_held_drew (S := fun _ => True) (by kernel_rfl) (trivial) (fun hHeld => ?_)
    refine tk1 0 (oi := ?o70) (v := ?v70) ?i70 ?w70 ?y70 ?r70
    case' i70 => simp only [g1, g2, g3]
    case i70 => rfl
    case w70 => kernel_rfl
    case y70 => (intro W hSw; go_simp) <;> with_reducible rfl
    try simp only [Act.put, p1, p2, p3]
    refine tk1 1 (oi := ?o71) (v := ?v71) ?i71 ?w71 ?y71 ?r71
    case' i71 => simp only [g1, g2, g3]
    case i71 => rfl
    case w71 => kernel_rfl
    case y71 => (intro W hSw; go_simp) <;> with_reducible rfl
    try simp only [Act.put, p1, p2, p3]
    refine tk1 2 (oi := ?o72) (v := ?v72) ?i72 ?w72 ?y72 ?r72
    case' i72 => simp only [g1, g2, g3]
    case i72 => rfl
    case w72 => kernel_rfl
    case y72 => (intro W hSw; go_simp) <;> with_reducible rfl
    try simp only [Act.put, p1, p2, p3]
    refine tk1 3 (oi := ?o73) (v := ?v73) ?i73 ?w73 ?y73 ?r73
    case' i73 => simp only [g1, g2, g3]
    case i73 => rfl
    case w73 => kernel_rfl
    case y73 => (intro W hSw; go_simp) <;> with_reducible rfl
    try simp only [Act.put, p1, p2, p3]
    refine tk1 5 (oi := ?o74) (v := ?v74) ?i74 ?w74 ?y74 ?r74
    case' i74 => simp only [g1, g2, g3]
    case i74 => rfl
    case w74 => kernel_rfl
    case y74 => (intro W hSw; go_simp) <;> with_reducible rfl
    try simp only [Act.put, p1, p2, p3]
    refine tk1 6 (oi := ?o75) (v := ?v75) ?i75 ?w75 ?y75 ?r75
    case' i75 => simp only [g1, g2, g3]
    case i75 => rfl
    case w75 => kernel_rfl
    case y75 => (intro W hSw; go_simp) <;> with_reducible rfl
    try simp only [Act.put, p1, p2, p3]
    refine tk1 7 (oi := ?o76) (v := ?v76) ?i76 ?w76 ?y76 ?r76
    case' i76 => simp only [g1, g2, g3]
    case i76 => rfl
    case w76 => kernel_rfl
    case y76 => (intro W hSw; go_simp) <;> with_reducible rfl
    try simp only [Act.put, p1, p2, p3]
    refine tk1 9 (oi := ?o77) (v := ?v77) ?i77 ?w77 ?y77 ?r77
    case' i77 => simp only [g1, g2, g3]
    case i77 => rfl
    case w77 => kernel_rfl
    case y77 => (intro W hSw; go_simp) <;> with_reducible rfl
    try simp only [Act.put, p1, p2, p3]
    refine wpAnyH_ready (rs := [4, 8]) (by kernel_rfl) (by simp) ?_
    refine (AllReadyH.cons (o := ?o78_0) ?i78_0 (fun K' hK => ?g78_0) (AllReadyH.cons (o := ?o78_1) ?i78_1 (fun K' hK => ?g78_1) AllReadyH.nil))
    case' i78_0 => simp only [g1, g2, g3]
    case i78_0 => rfl
    case' i78_1 => simp only [g1, g2, g3]
    case i78_1 => rfl
    case g78_0 =>
      go_simp
      refine hK.out _ _ (trivial) (fun hHeld => ?_)
      clear hK K'
      try simp only [Act.put, p1, p2, p3]
      refine wpAnyH_ready (rs := [8]) (by kernel_rfl) (by simp) ?_
      refine (AllReadyH.cons (o := ?o79_0) ?i79_0 (fun K' hK => ?g79_0) AllReadyH.nil)
      case' i79_0 => simp only [g1, g2, g3]
      case i79_0 => rfl
      go_simp
      refine hK.out _ _ (trivial) (fun hHeld => ?_)
      clear hK K'
      try simp only [Act.put, p1, p2, p3]
      refine wpAnyH_ready (rs := [10]) (by kernel_rfl) (by simp) ?_
      refine (AllReadyH.cons (o := ?o80_0) ?i80_0 (fun K' hK => ?g80_0) AllReadyH.nil)
      case' i80_0 => simp only [g1, g2, g3]
      case i80_0 => rfl
      go_simp
      go_at_call 173
      refine (HT.out.cs.pair.turnP g2 HT.out.wf HX.out HF.out).mono ?_
      rintro e' w1 ⟨rfl, hp, hk⟩
      replace HT := Lib.hid (HT.out.step hp hk HSD.out)
      clear hp hk c0 c1 c2 c3 c4
      go_wp2_with fail
      refine hK.out _ _ (trivial) (fun hHeld => ?_)
      clear hK K'
      try simp only [Act.put, p1, p2, p3]
      refine tk1 11 (oi := ?o81) (v := ?v81) ?i81 ?w81 ?y81 ?r81
      case' i81 => simp only [g1, g2, g3]
      case i81 => rfl
      case w81 => kernel_rfl
      case y81 => (intro W hSw; go_simp) <;> with_reducible rfl
      try simp only [Act.put, p1, p2, p3]
      refine tk1 12 (oi := ?o82) (v := ?v82) ?i82 ?w82 ?y82 ?r82
      case' i82 => simp only [g1, g2, g3]
      case i82 => rfl
      case w82 => kernel_rfl
      case y82 => (intro W hSw; go_simp) <;> with_reducible rfl
      try simp only [Act.put, p1, p2, p3]
      refine wpAnyH_ready (rs := [13]) (by kernel_rfl) (by simp) ?_
      refine (AllReadyH.cons (o := ?o83_0) ?i83_0 (fun K' hK => ?g83_0) AllReadyH.nil)
      case' i83_0 => simp only [g1, g2, g3]
      case i83_0 => rfl
      go_simp
      go_at_call 166
      refine (gotY_no _ _ _ _ _ HE.out _).mono ?_
      rintro e' w2 ⟨rfl, hb⟩
      replace HT := Lib.hid (HT.out.below g2 hb)
      clear hb
      unfold Fell
      go_wp2_with fail
      exact ⟨rfl, .inr ⟨_, _, HG.out, HE.out, rfl, HT.out.fall⟩⟩
    case g78_1 =>
      go_simp
      refine hK.out _ _ (trivial) (fun hHeld => ?_)
      clear hK K'
      try simp only [Act.put, p1, p2, p3]
      refine wpAnyH_ready (rs := [4]) (by kernel_rfl) (by simp) ?_
      refine (AllReadyH.cons (o := ?o84_0) ?i84_0 (fun K' hK => ?g84_0) AllReadyH.nil)
      case' i84_0 => simp only [g1, g2, g3]
      case i84_0 => rfl
      go_simp
      refine hK.out _ _ (trivial) (fun hHeld => ?_)
      clear hK K'
      try simp only [Act.put, p1, p2, p3]
      refine wpAnyH_ready (rs := [10]) (by kernel_rfl) (by simp) ?_
      refine (AllReadyH.cons (o := ?o85_0) ?i85_0 (fun K' hK => ?g85_0) AllReadyH.nil)
      case' i85_0 => simp only [g1, g2, g3]
      case i85_0 => rfl
      go_simp
      go_at_call 173
      refine (HT.out.cs.pair.turnP g2 HT.out.wf HX.out HF.out).mono ?_
      rintro e' w1 ⟨rfl, hp, hk⟩
      replace HT := Lib.hid (HT.out.step hp hk HSD.out)
      clear hp hk c0 c1 c2 c3 c4
      go_wp2_with fail
      refine hK.out _ _ (trivial) (fun hHeld => ?_)
      clear hK K'
      try simp only [Act.put, p1, p2, p3]
      refine tk1 11 (oi := ?o86) (v := ?v86) ?i86 ?w86 ?y86 ?r86
      case' i86 => simp only [g1, g2, g3]
      case i86 => rfl
      case w86 => kernel_rfl
      case y86 => (intro W hSw; go_simp) <;> with_reducible rfl
      try simp only [Act.put, p1, p2, p3]
      refine tk1 12 (oi := ?o87) (v := ?v87) ?i87 ?w87 ?y87 ?r87
      case' i87 => simp only [g1, g2, g3]
      case i87 => rfl
      case w87 => kernel_rfl
      case y87 => (intro W hSw; go_simp) <;> with_reducible rfl
      try simp only [Act.put, p1, p2, p3]
      refine wpAnyH_ready (rs := [13]) (by kernel_rfl) (by simp) ?_
      refine (AllReadyH.cons (o := ?o88_0) ?i88_0 (fun K' hK => ?g88_0) AllReadyH.nil)
      case' i88_0 => simp only [g1, g2, g3]
      case i88_0 => rfl
      go_simp
      go_at_call 166
      refine (gotY_no _ _ _ _ _ HE.out _).mono ?_
      rintro e' w2 ⟨rfl, hb⟩
      replace HT := Lib.hid (HT.out.below g2 hb)
      clear hb
      unfold Fell
      go_wp2_with fail
      exact ⟨rfl, .inr ⟨_, _, HG.out, HE.out, rfl, HT.out.fall⟩⟩
end
end Go.Proofs.YtgeonppckeiceaaGreatDoor
