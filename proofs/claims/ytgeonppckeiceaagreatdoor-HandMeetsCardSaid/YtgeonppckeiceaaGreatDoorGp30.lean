/- The steps of Begin (by tools/stage17/steps.py). -/
import Derived.Test.YtgeonppckeiceaaGreatDoorGp29
namespace Go.Proofs.YtgeonppckeiceaaGreatDoor
open Go.RowKit
set_option linter.unusedVariables false
set_option linter.unusedSimpArgs false
set_option maxRecDepth 20000
theorem sealG_i64 {y z : Sy} {x c : Int} {L L' : List Tm} {most : Int} (hl : (L.length : Int) ≤ most) (hm : most ≤ 1048576) (hf : Fit L) (hy : y.Wf) (h : sealG y x most L = (.ok (z, c), L')) : I64 c := by
  obtain ⟨z1, c1, e, L1, hq⟩ : ∃ z c e L1, sealF L most y x = (z, c, e, L1) := ⟨_, _, _, _, rfl⟩
  unfold sealG at h
  rw [hq] at h
  by_cases he : e = 0
  · subst he
    injection h with h1 h2
    injection h1 with h1
    injection h1 with h3 h4
    rw [← h4]
    exact (sealY_wf hl hm hf hy hq).2
  · injection h with h1 h2
    rw [show (if e = 0 then Except.ok (z1, c1) else Except.error e : Except Int (Sy × Int)) = .error e from if_neg he] at h1
    cases h1
theorem boxG_i64 {y z : Sy} {p d b : Int} {L L' : List Tm} {most : Int} (hl : (L.length : Int) ≤ most) (hm : most ≤ 1048576) (hf : Fit L) (h : boxG y p d most L = (.ok (z, b), L')) : I64 b := by
  unfold boxG at h
  obtain ⟨q, L1, h1, h2⟩ := G.to_inv h
  obtain ⟨y1, L2, h3, h4⟩ := G.to_inv h2
  obtain ⟨y2, L3, h5, h6⟩ := G.to_inv h4
  injection h6 with h7 h8
  injection h7 with h7
  injection h7 with h9 h10
  rw [← h10]
  obtain ⟨a, c, e, M, hq⟩ : ∃ a c e M, wrapF L most p d = (a, c, e, M) := ⟨_, _, _, _, rfl⟩
  unfold wrapG at h1
  rw [hq] at h1
  by_cases he : e = 0
  · subst he
    injection h1 with h1 h11
    injection h1 with h1
    rw [← h1]
    exact (wrap_i64 hl hm hf hq).1
  · injection h1 with h1 h11
    rw [show (if e = 0 then Except.ok (a, c) else Except.error e : Except Int (Int × Int)) = .error e from if_neg he] at h1
    cases h1
section
variable {base g B : Nat} {most : Int} {Q2 : (Nat → Prop) → List Tm → World → Prop} {L L' L2 : List Tm} {bs : List (Nat × Obj)} {w0 w w' : World}
set_option maxHeartbeats 1000000 in
theorem bg_sayE (g2 : Good base Q2) {P : BgP} {s : Begun} (h : Tk base g most Q2 L L2 bs B 129 s.y (P.rest s) w0 w) (ho : BgOk s) (hd : I64 P.d0) :
    Calls Tryz.prog 52 #[.pointer (some ⟨B, 0, none⟩)] w (Gp (bgE P s most L) (fun _ => .tuple #[]) (fun L' x w' => Tk base g most Q2 L' L2 bs B 129 x.y (P.rest x) w0 w' ∧ BgOk x) (fun L' w' => Cs base (PSq base g most) Q2 L' L2 bs w0 w')) := by
  have HT := Lib.hid h
  have HO := Lib.hid ho
  have HHD := Lib.hid hd
  clear h ho hd
  go_enter Tryz.func52, Tryz.ntmps52
  replace HT := Lib.hid (HT.out.drew g2)
  refine wp_region_held_drew (S := (fun W => W.cell? ⟨B, 0, none⟩ = some (.pointer (some ⟨g, 0, none⟩)) ∧ W.cell? ⟨B, 25, none⟩ = some (.int .i64 P.d0))) (by kernel_rfl) (⟨HT.out.c0, (HT.out.at 20 rfl)⟩) (fun hHeld => ?_)
  refine tk1 0 (oi := ?o1) (v := ?v1) ?i1 ?w1 ?y1 ?r1
  case' i1 => simp only [g1, g2, g3]
  case i1 => rfl
  case w1 => kernel_rfl
  case y1 => (intro W hSw; go_simp) <;> with_reducible rfl
  try simp only [Act.put, p1, p2, p3]
  refine tk1 1 (oi := ?o2) (v := ?v2) ?i2 ?w2 ?y2 ?r2
  case' i2 => simp only [g1, g2, g3]
  case i2 => rfl
  case w2 => kernel_rfl
  case y2 => (intro W hSw; go_simp) <;> with_reducible rfl
  try simp only [Act.put, p1, p2, p3]
  refine tk1 2 (oi := ?o3) (v := ?v3) ?i3 ?w3 ?y3 ?r3
  case' i3 => simp only [g1, g2, g3]
  case i3 => rfl
  case w3 => kernel_rfl
  case y3 => (intro W hSw; go_simp) <;> with_reducible rfl
  try simp only [Act.put, p1, p2, p3]
  refine tk1 3 (oi := ?o4) (v := ?v4) ?i4 ?w4 ?y4 ?r4
  case' i4 => simp only [g1, g2, g3]
  case i4 => rfl
  case w4 => kernel_rfl
  case y4 => (intro W hSw; go_simp) <;> with_reducible rfl
  try simp only [Act.put, p1, p2, p3]
  refine tk1 4 (oi := ?o5) (v := ?v5) ?i5 ?w5 ?y5 ?r5
  case' i5 => simp only [g1, g2, g3]
  case i5 => rfl
  case w5 => kernel_rfl
  case y5 => (intro W hSw; go_simp) <;> with_reducible rfl
  try simp only [Act.put, p1, p2, p3]
  refine tk1 5 (oi := ?o6) (v := ?v6) ?i6 ?w6 ?y6 ?r6
  case' i6 => simp only [g1, g2, g3]
  case i6 => rfl
  case w6 => kernel_rfl
  case y6 => (intro W hSw; go_simp) <;> with_reducible rfl
  try simp only [Act.put, p1, p2, p3]
  refine tk1 6 (oi := ?o7) (v := ?v7) ?i7 ?w7 ?y7 ?r7
  case' i7 => simp only [g1, g2, g3]
  case i7 => rfl
  case w7 => kernel_rfl
  case y7 => (intro W hSw; go_simp) <;> with_reducible rfl
  try simp only [Act.put, p1, p2, p3]
  refine tk1 7 (oi := ?o8) (v := ?v8) ?i8 ?w8 ?y8 ?r8
  case' i8 => simp only [g1, g2, g3]
  case i8 => rfl
  case w8 => kernel_rfl
  case y8 => (intro W hSw; go_simp) <;> with_reducible rfl
  try simp only [Act.put, p1, p2, p3]
  refine tk1 8 (oi := ?o9) (v := ?v9) ?i9 ?w9 ?y9 ?r9
  case' i9 => simp only [g1, g2, g3]
  case i9 => rfl
  case w9 => kernel_rfl
  case y9 => (intro W hSw; obtain ⟨q0, q25⟩ := hSw; go_simp) <;> with_reducible rfl
  try simp only [Act.put, p1, p2, p3]
  refine tk1 9 (oi := ?o10) (v := ?v10) ?i10 ?w10 ?y10 ?r10
  case' i10 => simp only [g1, g2, g3]
  case i10 => rfl
  case w10 => kernel_rfl
  case y10 => (intro W hSw; go_simp) <;> with_reducible rfl
  try simp only [Act.put, p1, p2, p3]
  refine tk1 10 (oi := ?o11) (v := ?v11) ?i11 ?w11 ?y11 ?r11
  case' i11 => simp only [g1, g2, g3]
  case i11 => rfl
  case w11 => kernel_rfl
  case y11 => (intro W hSw; go_simp) <;> with_reducible rfl
  try simp only [Act.put, p1, p2, p3]
  refine tk1 11 (oi := ?o12) (v := ?v12) ?i12 ?w12 ?y12 ?r12
  case' i12 => simp only [g1, g2, g3]
  case i12 => rfl
  case w12 => kernel_rfl
  case y12 => (intro W hSw; go_simp) <;> with_reducible rfl
  try simp only [Act.put, p1, p2, p3]
  refine tk1 12 (oi := ?o13) (v := ?v13) ?i13 ?w13 ?y13 ?r13
  case' i13 => simp only [g1, g2, g3]
  case i13 => rfl
  case w13 => kernel_rfl
  case y13 => (intro W hSw; go_simp) <;> with_reducible rfl
  try simp only [Act.put, p1, p2, p3]
  refine tk1 13 (oi := ?o14) (v := ?v14) ?i14 ?w14 ?y14 ?r14
  case' i14 => simp only [g1, g2, g3]
  case i14 => rfl
  case w14 => kernel_rfl
  case y14 => (intro W hSw; obtain ⟨q0, q25⟩ := hSw; go_simp) <;> with_reducible rfl
  try simp only [Act.put, p1, p2, p3]
  refine wpAnyH_ready (rs := [14]) (by kernel_rfl) (by simp) ?_
  refine (AllReadyH.cons (o := ?o15_0) ?i15_0 (fun K' hK => ?g15_0) AllReadyH.nil)
  case' i15_0 => simp only [g1, g2, g3]
  case i15_0 => rfl
  obtain ⟨a, e, MHF, hf⟩ : ∃ a e MHF, putF L most (pubT P.d0) = (a, e, MHF) := ⟨_, _, _, rfl⟩
  have HF := Lib.hid hf
  have HFs := Lib.hid (put_sd HT.out.cs.sound hf)
  have HFi := Lib.hid (name_i64 HT.out.facts.2.1 HT.out.facts.2.2 hf)
  clear hf
  go_simp
  go_at_call 46
  refine (HT.out.cs.pair.publicP g2 HHD.out HF.out).mono ?_
  rintro e' W1 ⟨rfl, hp, hk⟩
  replace HT := Lib.hid (HT.out.step hp hk HFs.out)
  clear hp hk
  go_wp2_with fail
  refine hK.out _ _ (⟨HT.out.c0, (HT.out.at 20 rfl)⟩) (fun hHeld => ?_)
  clear hK K'
  try simp only [Act.put, p1, p2, p3]
  refine tk1 15 (oi := ?o16) (v := ?v16) ?i16 ?w16 ?y16 ?r16
  case' i16 => simp only [g1, g2, g3]
  case i16 => rfl
  case w16 => kernel_rfl
  case y16 => (intro W hSw; go_simp) <;> with_reducible rfl
  try simp only [Act.put, p1, p2, p3]
  refine tk1 16 (oi := ?o17) (v := ?v17) ?i17 ?w17 ?y17 ?r17
  case' i17 => simp only [g1, g2, g3]
  case i17 => rfl
  case w17 => kernel_rfl
  case y17 => (intro W hSw; go_simp) <;> with_reducible rfl
  try simp only [Act.put, p1, p2, p3]
  refine wpAnyH_ready (rs := [17]) (by kernel_rfl) (by simp) ?_
  refine (AllReadyH.cons (o := ?o18_0) ?i18_0 (fun K' hK => ?g18_0) AllReadyH.nil)
  case' i18_0 => simp only [g1, g2, g3]
  case i18_0 => rfl
  go_simp
  go_at_call 118
  by_cases he : e = 0
  · subst he
    refine (got_yes _ _).mono ?_
    rintro e' W2 ⟨rfl, rfl⟩
    go_wp2_with fail
    refine hK.out _ _ (⟨HT.out.c0, (HT.out.at 20 rfl)⟩) (fun hHeld => ?_)
    clear hK K'
    try simp only [Act.put, p1, p2, p3]
    refine wpAnyH_ready (rs := [18]) (by kernel_rfl) (by simp) ?_
    refine (AllReadyH.cons (o := ?o19_0) ?i19_0 (fun K' hK => ?g19_0) AllReadyH.nil)
    case' i19_0 => simp only [g1, g2, g3]
    case i19_0 => rfl
    go_simp
    go_at_call 117
    refine (tk_say g2 HT.out HFi.out).mono ?_
    rintro e' W1 (⟨z, ME1, hm, rfl, hT⟩ | ⟨c, ME1, hm, hc, rfl, hT⟩)
    · have E1 := Lib.hid hm
      have HTold := HT
      replace HT := Lib.hid hT
      clear hm hT
      go_wp2_with fail
      refine hK.out _ _ (⟨HT.out.c0, (HT.out.at 20 rfl)⟩) (fun hHeld => ?_)
      clear hK K'
      try simp only [Act.put, p1, p2, p3]
      refine tk1 19 (oi := ?o20) (v := ?v20) ?i20 ?w20 ?y20 ?r20
      case' i20 => simp only [g1, g2, g3]
      case i20 => rfl
      case w20 => kernel_rfl
      case y20 => (intro W hSw; go_simp) <;> with_reducible rfl
      try simp only [Act.put, p1, p2, p3]
      refine tk1 20 (oi := ?o21) (v := ?v21) ?i21 ?w21 ?y21 ?r21
      case' i21 => simp only [g1, g2, g3]
      case i21 => rfl
      case w21 => kernel_rfl
      case y21 => (intro W hSw; go_simp) <;> with_reducible rfl
      try simp only [Act.put, p1, p2, p3]
      refine tk1 21 (oi := ?o22) (v := ?v22) ?i22 ?w22 ?y22 ?r22
      case' i22 => simp only [g1, g2, g3]
      case i22 => rfl
      case w22 => kernel_rfl
      case y22 => (intro W hSw; go_simp) <;> with_reducible rfl
      try simp only [Act.put, p1, p2, p3]
      refine wpAnyH_ready (rs := [22]) (by kernel_rfl) (by simp) ?_
      refine (AllReadyH.cons (o := ?o23_0) ?i23_0 (fun K' hK => ?g23_0) AllReadyH.nil)
      case' i23_0 => simp only [g1, g2, g3]
      case i23_0 => rfl
      have dst := HT.out.at 12 rfl
      have dfz := HT.out.fz 17
      go_simp
      replace HT := Lib.hid (HT.out.put g2 12 (.int .i64 a))
      clear dst dfz
      refine hK.out _ _ (⟨HT.out.c0, (HT.out.at 20 rfl)⟩) (fun hHeld => ?_)
      clear hK K'
      try simp only [Act.put, p1, p2, p3]
      refine wpAnyH_done (by kernel_rfl) ?_ _
      go_wp2_with fail
      go_end0
      exact .inl ⟨{ s with e := a, y := z }, _, by unfold bgE; exact (G.to_ok (putG_ok HF.out)).trans ((G.to_ok E1.out).trans (rfl)), rfl, HT.out, ⟨HFi.out, HO.out.2⟩⟩
    · unfold Fell
      go_wp2_with fail
      exact ⟨rfl, .inr ⟨_, _, by unfold bgE; exact (G.to_ok (putG_ok HF.out)).trans (G.to_bad hm), hc, rfl, hT⟩⟩
  · have HE := Lib.hid he
    clear he
    refine (got_no _ _ HE.out _).mono ?_
    rintro e' W2 ⟨rfl, rfl⟩
    unfold Fell
    go_wp2_with fail
    exact ⟨rfl, .inr ⟨_, _, by unfold bgE; exact G.to_bad (putG_no HF.out HE.out), HE.out, rfl, HT.out.fall⟩⟩
set_option maxHeartbeats 1000000 in
theorem bg_sayEK (g2 : Good base Q2) {P : BgP} {s : Begun} (h : Tk base g most Q2 L L2 bs B 129 s.y (P.rest s) w0 w) (ho : BgOk s) (hd : I64 P.d1) :
    Calls Tryz.prog 53 #[.pointer (some ⟨B, 0, none⟩)] w (Gp (bgEK P s most L) (fun _ => .tuple #[]) (fun L' x w' => Tk base g most Q2 L' L2 bs B 129 x.y (P.rest x) w0 w' ∧ BgOk x) (fun L' w' => Cs base (PSq base g most) Q2 L' L2 bs w0 w')) := by
  have HT := Lib.hid h
  have HO := Lib.hid ho
  have HHD := Lib.hid hd
  clear h ho hd
  go_enter Tryz.func53, Tryz.ntmps53
  replace HT := Lib.hid (HT.out.drew g2)
  refine wp_region_held_drew (S := (fun W => W.cell? ⟨B, 0, none⟩ = some (.pointer (some ⟨g, 0, none⟩)) ∧ W.cell? ⟨B, 26, none⟩ = some (.int .i64 P.d1))) (by kernel_rfl) (⟨HT.out.c0, (HT.out.at 21 rfl)⟩) (fun hHeld => ?_)
  refine tk1 0 (oi := ?o24) (v := ?v24) ?i24 ?w24 ?y24 ?r24
  case' i24 => simp only [g1, g2, g3]
  case i24 => rfl
  case w24 => kernel_rfl
  case y24 => (intro W hSw; go_simp) <;> with_reducible rfl
  try simp only [Act.put, p1, p2, p3]
  refine tk1 1 (oi := ?o25) (v := ?v25) ?i25 ?w25 ?y25 ?r25
  case' i25 => simp only [g1, g2, g3]
  case i25 => rfl
  case w25 => kernel_rfl
  case y25 => (intro W hSw; go_simp) <;> with_reducible rfl
  try simp only [Act.put, p1, p2, p3]
  refine tk1 2 (oi := ?o26) (v := ?v26) ?i26 ?w26 ?y26 ?r26
  case' i26 => simp only [g1, g2, g3]
  case i26 => rfl
  case w26 => kernel_rfl
  case y26 => (intro W hSw; go_simp) <;> with_reducible rfl
  try simp only [Act.put, p1, p2, p3]
  refine tk1 3 (oi := ?o27) (v := ?v27) ?i27 ?w27 ?y27 ?r27
  case' i27 => simp only [g1, g2, g3]
  case i27 => rfl
  case w27 => kernel_rfl
  case y27 => (intro W hSw; go_simp) <;> with_reducible rfl
  try simp only [Act.put, p1, p2, p3]
  refine tk1 4 (oi := ?o28) (v := ?v28) ?i28 ?w28 ?y28 ?r28
  case' i28 => simp only [g1, g2, g3]
  case i28 => rfl
  case w28 => kernel_rfl
  case y28 => (intro W hSw; go_simp) <;> with_reducible rfl
  try simp only [Act.put, p1, p2, p3]
  refine tk1 5 (oi := ?o29) (v := ?v29) ?i29 ?w29 ?y29 ?r29
  case' i29 => simp only [g1, g2, g3]
  case i29 => rfl
  case w29 => kernel_rfl
  case y29 => (intro W hSw; go_simp) <;> with_reducible rfl
  try simp only [Act.put, p1, p2, p3]
  refine tk1 6 (oi := ?o30) (v := ?v30) ?i30 ?w30 ?y30 ?r30
  case' i30 => simp only [g1, g2, g3]
  case i30 => rfl
  case w30 => kernel_rfl
  case y30 => (intro W hSw; go_simp) <;> with_reducible rfl
  try simp only [Act.put, p1, p2, p3]
  refine tk1 7 (oi := ?o31) (v := ?v31) ?i31 ?w31 ?y31 ?r31
  case' i31 => simp only [g1, g2, g3]
  case i31 => rfl
  case w31 => kernel_rfl
  case y31 => (intro W hSw; go_simp) <;> with_reducible rfl
  try simp only [Act.put, p1, p2, p3]
  refine tk1 8 (oi := ?o32) (v := ?v32) ?i32 ?w32 ?y32 ?r32
  case' i32 => simp only [g1, g2, g3]
  case i32 => rfl
  case w32 => kernel_rfl
  case y32 => (intro W hSw; obtain ⟨q0, q26⟩ := hSw; go_simp) <;> with_reducible rfl
  try simp only [Act.put, p1, p2, p3]
  refine tk1 9 (oi := ?o33) (v := ?v33) ?i33 ?w33 ?y33 ?r33
  case' i33 => simp only [g1, g2, g3]
  case i33 => rfl
  case w33 => kernel_rfl
  case y33 => (intro W hSw; go_simp) <;> with_reducible rfl
  try simp only [Act.put, p1, p2, p3]
  refine tk1 10 (oi := ?o34) (v := ?v34) ?i34 ?w34 ?y34 ?r34
  case' i34 => simp only [g1, g2, g3]
  case i34 => rfl
  case w34 => kernel_rfl
  case y34 => (intro W hSw; go_simp) <;> with_reducible rfl
  try simp only [Act.put, p1, p2, p3]
  refine tk1 11 (oi := ?o35) (v := ?v35) ?i35 ?w35 ?y35 ?r35
  case' i35 => simp only [g1, g2, g3]
  case i35 => rfl
  case w35 => kernel_rfl
  case y35 => (intro W hSw; go_simp) <;> with_reducible rfl
  try simp only [Act.put, p1, p2, p3]
  refine tk1 12 (oi := ?o36) (v := ?v36) ?i36 ?w36 ?y36 ?r36
  case' i36 => simp only [g1, g2, g3]
  case i36 => rfl
  case w36 => kernel_rfl
  case y36 => (intro W hSw; go_simp) <;> with_reducible rfl
  try simp only [Act.put, p1, p2, p3]
  refine tk1 13 (oi := ?o37) (v := ?v37) ?i37 ?w37 ?y37 ?r37
  case' i37 => simp only [g1, g2, g3]
  case i37 => rfl
  case w37 => kernel_rfl
  case y37 => (intro W hSw; obtain ⟨q0, q26⟩ := hSw; go_simp) <;> with_reducible rfl
  try simp only [Act.put, p1, p2, p3]
  refine wpAnyH_ready (rs := [14]) (by kernel_rfl) (by simp) ?_
  refine (AllReadyH.cons (o := ?o38_0) ?i38_0 (fun K' hK => ?g38_0) AllReadyH.nil)
  case' i38_0 => simp only [g1, g2, g3]
  case i38_0 => rfl
  obtain ⟨a, e, MHF, hf⟩ : ∃ a e MHF, putF L most (kpubT P.d1) = (a, e, MHF) := ⟨_, _, _, rfl⟩
  have HF := Lib.hid hf
  have HFs := Lib.hid (put_sd HT.out.cs.sound hf)
  have HFi := Lib.hid (name_i64 HT.out.facts.2.1 HT.out.facts.2.2 hf)
  clear hf
  go_simp
  go_at_call 47
  refine (HT.out.cs.pair.kpublicP g2 HHD.out HF.out).mono ?_
  rintro e' W1 ⟨rfl, hp, hk⟩
  replace HT := Lib.hid (HT.out.step hp hk HFs.out)
  clear hp hk
  go_wp2_with fail
  refine hK.out _ _ (⟨HT.out.c0, (HT.out.at 21 rfl)⟩) (fun hHeld => ?_)
  clear hK K'
  try simp only [Act.put, p1, p2, p3]
  refine tk1 15 (oi := ?o39) (v := ?v39) ?i39 ?w39 ?y39 ?r39
  case' i39 => simp only [g1, g2, g3]
  case i39 => rfl
  case w39 => kernel_rfl
  case y39 => (intro W hSw; go_simp) <;> with_reducible rfl
  try simp only [Act.put, p1, p2, p3]
  refine tk1 16 (oi := ?o40) (v := ?v40) ?i40 ?w40 ?y40 ?r40
  case' i40 => simp only [g1, g2, g3]
  case i40 => rfl
  case w40 => kernel_rfl
  case y40 => (intro W hSw; go_simp) <;> with_reducible rfl
  try simp only [Act.put, p1, p2, p3]
  refine wpAnyH_ready (rs := [17]) (by kernel_rfl) (by simp) ?_
  refine (AllReadyH.cons (o := ?o41_0) ?i41_0 (fun K' hK => ?g41_0) AllReadyH.nil)
  case' i41_0 => simp only [g1, g2, g3]
  case i41_0 => rfl
  go_simp
  go_at_call 118
  by_cases he : e = 0
  · subst he
    refine (got_yes _ _).mono ?_
    rintro e' W2 ⟨rfl, rfl⟩
    go_wp2_with fail
    refine hK.out _ _ (⟨HT.out.c0, (HT.out.at 21 rfl)⟩) (fun hHeld => ?_)
    clear hK K'
    try simp only [Act.put, p1, p2, p3]
    refine wpAnyH_ready (rs := [18]) (by kernel_rfl) (by simp) ?_
    refine (AllReadyH.cons (o := ?o42_0) ?i42_0 (fun K' hK => ?g42_0) AllReadyH.nil)
    case' i42_0 => simp only [g1, g2, g3]
    case i42_0 => rfl
    go_simp
    go_at_call 117
    refine (tk_say g2 HT.out HFi.out).mono ?_
    rintro e' W1 (⟨z, ME1, hm, rfl, hT⟩ | ⟨c, ME1, hm, hc, rfl, hT⟩)
    · have E1 := Lib.hid hm
      have HTold := HT
      replace HT := Lib.hid hT
      clear hm hT
      go_wp2_with fail
      refine hK.out _ _ (⟨HT.out.c0, (HT.out.at 21 rfl)⟩) (fun hHeld => ?_)
      clear hK K'
      try simp only [Act.put, p1, p2, p3]
      refine tk1 19 (oi := ?o43) (v := ?v43) ?i43 ?w43 ?y43 ?r43
      case' i43 => simp only [g1, g2, g3]
      case i43 => rfl
      case w43 => kernel_rfl
      case y43 => (intro W hSw; go_simp) <;> with_reducible rfl
      try simp only [Act.put, p1, p2, p3]
      refine tk1 20 (oi := ?o44) (v := ?v44) ?i44 ?w44 ?y44 ?r44
      case' i44 => simp only [g1, g2, g3]
      case i44 => rfl
      case w44 => kernel_rfl
      case y44 => (intro W hSw; go_simp) <;> with_reducible rfl
      try simp only [Act.put, p1, p2, p3]
      refine tk1 21 (oi := ?o45) (v := ?v45) ?i45 ?w45 ?y45 ?r45
      case' i45 => simp only [g1, g2, g3]
      case i45 => rfl
      case w45 => kernel_rfl
      case y45 => (intro W hSw; go_simp) <;> with_reducible rfl
      try simp only [Act.put, p1, p2, p3]
      refine wpAnyH_ready (rs := [22]) (by kernel_rfl) (by simp) ?_
      refine (AllReadyH.cons (o := ?o46_0) ?i46_0 (fun K' hK => ?g46_0) AllReadyH.nil)
      case' i46_0 => simp only [g1, g2, g3]
      case i46_0 => rfl
      have dst := HT.out.at 13 rfl
      have dfz := HT.out.fz 18
      go_simp
      replace HT := Lib.hid (HT.out.put g2 13 (.int .i64 a))
      clear dst dfz
      refine hK.out _ _ (⟨HT.out.c0, (HT.out.at 21 rfl)⟩) (fun hHeld => ?_)
      clear hK K'
      try simp only [Act.put, p1, p2, p3]
      refine wpAnyH_done (by kernel_rfl) ?_ _
      go_wp2_with fail
      go_end0
      exact .inl ⟨{ s with ek := a, y := z }, _, by unfold bgEK; exact (G.to_ok (putG_ok HF.out)).trans ((G.to_ok E1.out).trans (rfl)), rfl, HT.out, ⟨HO.out.1, HFi.out, HO.out.2.2⟩⟩
    · unfold Fell
      go_wp2_with fail
      exact ⟨rfl, .inr ⟨_, _, by unfold bgEK; exact (G.to_ok (putG_ok HF.out)).trans (G.to_bad hm), hc, rfl, hT⟩⟩
  · have HE := Lib.hid he
    clear he
    refine (got_no _ _ HE.out _).mono ?_
    rintro e' W2 ⟨rfl, rfl⟩
    unfold Fell
    go_wp2_with fail
    exact ⟨rfl, .inr ⟨_, _, by unfold bgEK; exact G.to_bad (putG_no HF.out HE.out), HE.out, rfl, HT.out.fall⟩⟩
set_option maxHeartbeats 1000000 in
theorem bg_first (g2 : Good base Q2) {P : BgP} {s : Begun} (h : Tk base g most Q2 L L2 bs B 129 s.y (P.rest s) w0 w) (ho : BgOk s) (ho1 : P.offer.size ≤ maxLen) (hs : P.slot = 0 ∨ P.slot = 1) (hp : I64 P.p.dh) (hq : I64 P.p.kem) :
    Calls Tryz.prog 51 #[.pointer (some ⟨B, 0, none⟩)] w (Gp (bgFirst P s most L) (fun _ => .tuple #[]) (fun L' x w' => Tk base g most Q2 L' L2 bs B 129 x.y (P.rest x) w0 w' ∧ BgOk x) (fun L' w' => Cs base (PSq base g most) Q2 L' L2 bs w0 w')) := by
  have HT := Lib.hid h
  have HO := Lib.hid ho
  have HHO1 := Lib.hid ho1
  have HHS := Lib.hid hs
  have HHP := Lib.hid hp
  have HHQ := Lib.hid hq
  clear h ho ho1 hs hp hq
  go_enter Tryz.func51, Tryz.ntmps51
  replace HT := Lib.hid (HT.out.drew g2)
  refine wp_region_held_drew (S := (fun W => W.cell? ⟨B, 14, none⟩ = some (.string P.offer) ∧ W.cell? ⟨B, 15, none⟩ = some (.int .i64 P.slot) ∧ W.cell? ⟨B, 7, none⟩ = some (.int .i64 P.p.dh) ∧ W.cell? ⟨B, 8, none⟩ = some (.int .i64 P.p.kem))) (by kernel_rfl) (⟨(HT.out.at 9 rfl), (HT.out.at 10 rfl), (HT.out.at 2 rfl), (HT.out.at 3 rfl)⟩) (fun hHeld => ?_)
  refine tk1 0 (oi := ?o47) (v := ?v47) ?i47 ?w47 ?y47 ?r47
  case' i47 => simp only [g1, g2, g3]
  case i47 => rfl
  case w47 => kernel_rfl
  case y47 => (intro W hSw; go_simp) <;> with_reducible rfl
  try simp only [Act.put, p1, p2, p3]
  refine tk1 1 (oi := ?o48) (v := ?v48) ?i48 ?w48 ?y48 ?r48
  case' i48 => simp only [g1, g2, g3]
  case i48 => rfl
  case w48 => kernel_rfl
  case y48 => (intro W hSw; go_simp) <;> with_reducible rfl
  try simp only [Act.put, p1, p2, p3]
  refine tk1 2 (oi := ?o49) (v := ?v49) ?i49 ?w49 ?y49 ?r49
  case' i49 => simp only [g1, g2, g3]
  case i49 => rfl
  case w49 => kernel_rfl
  case y49 => (intro W hSw; go_simp) <;> with_reducible rfl
  try simp only [Act.put, p1, p2, p3]
  refine tk1 3 (oi := ?o50) (v := ?v50) ?i50 ?w50 ?y50 ?r50
  case' i50 => simp only [g1, g2, g3]
  case i50 => rfl
  case w50 => kernel_rfl
  case y50 => (intro W hSw; go_simp) <;> with_reducible rfl
  try simp only [Act.put, p1, p2, p3]
  refine tk1 4 (oi := ?o51) (v := ?v51) ?i51 ?w51 ?y51 ?r51
  case' i51 => simp only [g1, g2, g3]
  case i51 => rfl
  case w51 => kernel_rfl
  case y51 => (intro W hSw; go_simp) <;> with_reducible rfl
  try simp only [Act.put, p1, p2, p3]
  refine tk1 5 (oi := ?o52) (v := ?v52) ?i52 ?w52 ?y52 ?r52
  case' i52 => simp only [g1, g2, g3]
  case i52 => rfl
  case w52 => kernel_rfl
  case y52 => (intro W hSw; go_simp) <;> with_reducible rfl
  try simp only [Act.put, p1, p2, p3]
  refine tk1 6 (oi := ?o53) (v := ?v53) ?i53 ?w53 ?y53 ?r53
  case' i53 => simp only [g1, g2, g3]
  case i53 => rfl
  case w53 => kernel_rfl
  case y53 => (intro W hSw; go_simp) <;> with_reducible rfl
  try simp only [Act.put, p1, p2, p3]
  refine tk1 7 (oi := ?o54) (v := ?v54) ?i54 ?w54 ?y54 ?r54
  case' i54 => simp only [g1, g2, g3]
  case i54 => rfl
  case w54 => kernel_rfl
  case y54 => (intro W hSw; obtain ⟨q14, q15, q7, q8⟩ := hSw; go_simp) <;> with_reducible rfl
  try simp only [Act.put, p1, p2, p3]
  refine tk1 8 (oi := ?o55) (v := ?v55) ?i55 ?w55 ?y55 ?r55
  case' i55 => simp only [g1, g2, g3]
  case i55 => rfl
  case w55 => kernel_rfl
  case y55 => (intro W hSw; go_simp) <;> with_reducible rfl
  try simp only [Act.put, p1, p2, p3]
  refine tk1 9 (oi := ?o56) (v := ?v56) ?i56 ?w56 ?y56 ?r56
  case' i56 => simp only [g1, g2, g3]
  case i56 => rfl
  case w56 => kernel_rfl
  case y56 => (intro W hSw; go_simp) <;> with_reducible rfl
  try simp only [Act.put, p1, p2, p3]
  refine tk1 10 (oi := ?o57) (v := ?v57) ?i57 ?w57 ?y57 ?r57
  case' i57 => simp only [g1, g2, g3]
  case i57 => rfl
  case w57 => kernel_rfl
  case y57 => (intro W hSw; go_simp) <;> with_reducible rfl
  try simp only [Act.put, p1, p2, p3]
  refine tk1 11 (oi := ?o58) (v := ?v58) ?i58 ?w58 ?y58 ?r58
  case' i58 => simp only [g1, g2, g3]
  case i58 => rfl
  case w58 => kernel_rfl
  case y58 => (intro W hSw; go_simp) <;> with_reducible rfl
  try simp only [Act.put, p1, p2, p3]
  refine tk1 12 (oi := ?o59) (v := ?v59) ?i59 ?w59 ?y59 ?r59
  case' i59 => simp only [g1, g2, g3]
  case i59 => rfl
  case w59 => kernel_rfl
  case y59 => (intro W hSw; obtain ⟨q14, q15, q7, q8⟩ := hSw; go_simp) <;> with_reducible rfl
  try simp only [Act.put, p1, p2, p3]
  refine tk1 13 (oi := ?o60) (v := ?v60) ?i60 ?w60 ?y60 ?r60
  case' i60 => simp only [g1, g2, g3]
  case i60 => rfl
  case w60 => kernel_rfl
  case y60 => (intro W hSw; go_simp) <;> with_reducible rfl
  try simp only [Act.put, p1, p2, p3]
  refine tk1 14 (oi := ?o61) (v := ?v61) ?i61 ?w61 ?y61 ?r61
  case' i61 => simp only [g1, g2, g3]
  case i61 => rfl
  case w61 => kernel_rfl
  case y61 => (intro W hSw; go_simp) <;> with_reducible rfl
  try simp only [Act.put, p1, p2, p3]
  refine tk1 15 (oi := ?o62) (v := ?v62) ?i62 ?w62 ?y62 ?r62
  case' i62 => simp only [g1, g2, g3]
  case i62 => rfl
  case w62 => kernel_rfl
  case y62 => (intro W hSw; go_simp) <;> with_reducible rfl
  try simp only [Act.put, p1, p2, p3]
  refine tk1 16 (oi := ?o63) (v := ?v63) ?i63 ?w63 ?y63 ?r63
  case' i63 => simp only [g1, g2, g3]
  case i63 => rfl
  case w63 => kernel_rfl
  case y63 => (intro W hSw; go_simp) <;> with_reducible rfl
  try simp only [Act.put, p1, p2, p3]
  refine tk1 17 (oi := ?o64) (v := ?v64) ?i64 ?w64 ?y64 ?r64
  case' i64 => simp only [g1, g2, g3]
  case i64 => rfl
  case w64 => kernel_rfl
  case y64 => (intro W hSw; obtain ⟨q14, q15, q7, q8⟩ := hSw; go_simp) <;> with_reducible rfl
  try simp only [Act.put, p1, p2, p3]
  refine wpAnyH_ready (rs := [18]) (by kernel_rfl) (by simp) ?_
  refine (AllReadyH.cons (o := ?o65_0) ?i65_0 (fun K' hK => ?g65_0) AllReadyH.nil)
  case' i65_0 => simp only [g1, g2, g3]
  case i65_0 => rfl
  go_simp
  go_at_call 116
  refine (tk_first g2 HT.out HHO1.out HHS.out HHP.out HHQ.out).mono ?_
  rintro e' W1 (⟨z, ME1, hm, rfl, hT⟩ | ⟨c, ME1, hm, hc, rfl, hT⟩)
  · have E1 := Lib.hid hm
    have HTold := HT
    replace HT := Lib.hid hT
    clear hm hT
    go_wp2_with fail
    refine hK.out _ _ (⟨(HT.out.at 9 rfl), (HT.out.at 10 rfl), (HT.out.at 2 rfl), (HT.out.at 3 rfl)⟩) (fun hHeld => ?_)
    clear hK K'
    try simp only [Act.put, p1, p2, p3]
    refine wpAnyH_done (by kernel_rfl) ?_ _
    go_wp2_with fail
    go_end0
    exact .inl ⟨{ s with y := z }, _, by unfold bgFirst; exact (G.to_ok E1.out).trans (rfl), rfl, HT.out, HO.out⟩
  · unfold Fell
    go_wp2_with fail
    exact ⟨rfl, .inr ⟨_, _, by unfold bgFirst; exact G.to_bad hm, hc, rfl, hT⟩⟩
set_option maxHeartbeats 1000000 in
theorem bg_mixE (g2 : Good base Q2) {P : BgP} {s : Begun} (h : Tk base g most Q2 L L2 bs B 129 s.y (P.rest s) w0 w) (ho : BgOk s) (hd : I64 P.d0) :
    Calls Tryz.prog 54 #[.pointer (some ⟨B, 0, none⟩)] w (Gp (bgMixE P s most L) (fun _ => .tuple #[]) (fun L' x w' => Tk base g most Q2 L' L2 bs B 129 x.y (P.rest x) w0 w' ∧ BgOk x) (fun L' w' => Cs base (PSq base g most) Q2 L' L2 bs w0 w')) := by
  have HT := Lib.hid h
  have HO := Lib.hid ho
  have HHD := Lib.hid hd
  clear h ho hd
  go_enter Tryz.func54, Tryz.ntmps54
  replace HT := Lib.hid (HT.out.drew g2)
  refine wp_region_held_drew (S := (fun W => W.cell? ⟨B, 25, none⟩ = some (.int .i64 P.d0) ∧ W.cell? ⟨B, 7, none⟩ = some (.int .i64 P.p.dh))) (by kernel_rfl) (⟨(HT.out.at 20 rfl), (HT.out.at 2 rfl)⟩) (fun hHeld => ?_)
  refine tk1 0 (oi := ?o66) (v := ?v66) ?i66 ?w66 ?y66 ?r66
  case' i66 => simp only [g1, g2, g3]
  case i66 => rfl
  case w66 => kernel_rfl
  case y66 => (intro W hSw; go_simp) <;> with_reducible rfl
  try simp only [Act.put, p1, p2, p3]
  refine tk1 1 (oi := ?o67) (v := ?v67) ?i67 ?w67 ?y67 ?r67
  case' i67 => simp only [g1, g2, g3]
  case i67 => rfl
  case w67 => kernel_rfl
  case y67 => (intro W hSw; go_simp) <;> with_reducible rfl
  try simp only [Act.put, p1, p2, p3]
  refine tk1 2 (oi := ?o68) (v := ?v68) ?i68 ?w68 ?y68 ?r68
  case' i68 => simp only [g1, g2, g3]
  case i68 => rfl
  case w68 => kernel_rfl
  case y68 => (intro W hSw; go_simp) <;> with_reducible rfl
  try simp only [Act.put, p1, p2, p3]
  refine tk1 3 (oi := ?o69) (v := ?v69) ?i69 ?w69 ?y69 ?r69
  case' i69 => simp only [g1, g2, g3]
  case i69 => rfl
  case w69 => kernel_rfl
  case y69 => (intro W hSw; go_simp) <;> with_reducible rfl
  try simp only [Act.put, p1, p2, p3]
  refine tk1 4 (oi := ?o70) (v := ?v70) ?i70 ?w70 ?y70 ?r70
  case' i70 => simp only [g1, g2, g3]
  case i70 => rfl
  case w70 => kernel_rfl
  case y70 => (intro W hSw; go_simp) <;> with_reducible rfl
  try simp only [Act.put, p1, p2, p3]
  refine tk1 5 (oi := ?o71) (v := ?v71) ?i71 ?w71 ?y71 ?r71
  case' i71 => simp only [g1, g2, g3]
  case i71 => rfl
  case w71 => kernel_rfl
  case y71 => (intro W hSw; go_simp) <;> with_reducible rfl
  try simp only [Act.put, p1, p2, p3]
  refine tk1 6 (oi := ?o72) (v := ?v72) ?i72 ?w72 ?y72 ?r72
  case' i72 => simp only [g1, g2, g3]
  case i72 => rfl
  case w72 => kernel_rfl
  case y72 => (intro W hSw; go_simp) <;> with_reducible rfl
  try simp only [Act.put, p1, p2, p3]
  refine tk1 7 (oi := ?o73) (v := ?v73) ?i73 ?w73 ?y73 ?r73
  case' i73 => simp only [g1, g2, g3]
  case i73 => rfl
  case w73 => kernel_rfl
  case y73 => (intro W hSw; obtain ⟨q25, q7⟩ := hSw; go_simp) <;> with_reducible rfl
  try simp only [Act.put, p1, p2, p3]
  refine tk1 8 (oi := ?o74) (v := ?v74) ?i74 ?w74 ?y74 ?r74
  case' i74 => simp only [g1, g2, g3]
  case i74 => rfl
  case w74 => kernel_rfl
  case y74 => (intro W hSw; go_simp) <;> with_reducible rfl
  try simp only [Act.put, p1, p2, p3]
  refine tk1 9 (oi := ?o75) (v := ?v75) ?i75 ?w75 ?y75 ?r75
  case' i75 => simp only [g1, g2, g3]
  case i75 => rfl
  case w75 => kernel_rfl
  case y75 => (intro W hSw; go_simp) <;> with_reducible rfl
  try simp only [Act.put, p1, p2, p3]
  refine tk1 10 (oi := ?o76) (v := ?v76) ?i76 ?w76 ?y76 ?r76
  case' i76 => simp only [g1, g2, g3]
  case i76 => rfl
  case w76 => kernel_rfl
  case y76 => (intro W hSw; go_simp) <;> with_reducible rfl
  try simp only [Act.put, p1, p2, p3]
  refine tk1 11 (oi := ?o77) (v := ?v77) ?i77 ?w77 ?y77 ?r77
  case' i77 => simp only [g1, g2, g3]
  case i77 => rfl
  case w77 => kernel_rfl
  case y77 => (intro W hSw; go_simp) <;> with_reducible rfl
  try simp only [Act.put, p1, p2, p3]
  refine tk1 12 (oi := ?o78) (v := ?v78) ?i78 ?w78 ?y78 ?r78
  case' i78 => simp only [g1, g2, g3]
  case i78 => rfl
  case w78 => kernel_rfl
  case y78 => (intro W hSw; go_simp) <;> with_reducible rfl
  try simp only [Act.put, p1, p2, p3]
  refine tk1 13 (oi := ?o79) (v := ?v79) ?i79 ?w79 ?y79 ?r79
  case' i79 => simp only [g1, g2, g3]
  case i79 => rfl
  case w79 => kernel_rfl
  case y79 => (intro W hSw; obtain ⟨q25, q7⟩ := hSw; go_simp) <;> with_reducible rfl
  try simp only [Act.put, p1, p2, p3]
  refine wpAnyH_ready (rs := [14]) (by kernel_rfl) (by simp) ?_
  refine (AllReadyH.cons (o := ?o80_0) ?i80_0 (fun K' hK => ?g80_0) AllReadyH.nil)
  case' i80_0 => simp only [g1, g2, g3]
  case i80_0 => rfl
  go_simp
  go_at_call 119
  refine (tk_share g2 HT.out HHD.out).mono ?_
  rintro e' W1 (⟨z, ME1, hm, rfl, hT⟩ | ⟨c, ME1, hm, hc, rfl, hT⟩)
  · have E1 := Lib.hid hm
    have HTold := HT
    replace HT := Lib.hid hT
    clear hm hT
    go_wp2_with fail
    refine hK.out _ _ (⟨(HT.out.at 20 rfl), (HT.out.at 2 rfl)⟩) (fun hHeld => ?_)
    clear hK K'
    try simp only [Act.put, p1, p2, p3]
    refine wpAnyH_done (by kernel_rfl) ?_ _
    go_wp2_with fail
    go_end0
    exact .inl ⟨{ s with y := z }, _, by unfold bgMixE; exact (G.to_ok E1.out).trans (rfl), rfl, HT.out, HO.out⟩
  · unfold Fell
    go_wp2_with fail
    exact ⟨rfl, .inr ⟨_, _, by unfold bgMixE; exact G.to_bad hm, hc, rfl, hT⟩⟩
set_option maxHeartbeats 1000000 in
theorem bg_wrapSecret (g2 : Good base Q2) {P : BgP} {s : Begun} (h : Tk base g most Q2 L L2 bs B 129 s.y (P.rest s) w0 w) (ho : BgOk s) (hd : I64 P.d2) :
    Calls Tryz.prog 55 #[.pointer (some ⟨B, 0, none⟩)] w (Gp (bgWrap P s most L) (fun _ => .tuple #[]) (fun L' x w' => Tk base g most Q2 L' L2 bs B 129 x.y (P.rest x) w0 w' ∧ BgOk x) (fun L' w' => Cs base (PSq base g most) Q2 L' L2 bs w0 w')) := by
  have HT := Lib.hid h
  have HO := Lib.hid ho
  have HHD := Lib.hid hd
  clear h ho hd
  go_enter Tryz.func55, Tryz.ntmps55
  replace HT := Lib.hid (HT.out.drew g2)
  refine wp_region_held_drew (S := (fun W => W.cell? ⟨B, 8, none⟩ = some (.int .i64 P.p.kem) ∧ W.cell? ⟨B, 27, none⟩ = some (.int .i64 P.d2))) (by kernel_rfl) (⟨(HT.out.at 3 rfl), (HT.out.at 22 rfl)⟩) (fun hHeld => ?_)
  refine tk1 0 (oi := ?o81) (v := ?v81) ?i81 ?w81 ?y81 ?r81
  case' i81 => simp only [g1, g2, g3]
  case i81 => rfl
  case w81 => kernel_rfl
  case y81 => (intro W hSw; go_simp) <;> with_reducible rfl
  try simp only [Act.put, p1, p2, p3]
  refine tk1 1 (oi := ?o82) (v := ?v82) ?i82 ?w82 ?y82 ?r82
  case' i82 => simp only [g1, g2, g3]
  case i82 => rfl
  case w82 => kernel_rfl
  case y82 => (intro W hSw; go_simp) <;> with_reducible rfl
  try simp only [Act.put, p1, p2, p3]
  refine tk1 2 (oi := ?o83) (v := ?v83) ?i83 ?w83 ?y83 ?r83
  case' i83 => simp only [g1, g2, g3]
  case i83 => rfl
  case w83 => kernel_rfl
  case y83 => (intro W hSw; go_simp) <;> with_reducible rfl
  try simp only [Act.put, p1, p2, p3]
  refine tk1 3 (oi := ?o84) (v := ?v84) ?i84 ?w84 ?y84 ?r84
  case' i84 => simp only [g1, g2, g3]
  case i84 => rfl
  case w84 => kernel_rfl
  case y84 => (intro W hSw; go_simp) <;> with_reducible rfl
  try simp only [Act.put, p1, p2, p3]
  refine tk1 4 (oi := ?o85) (v := ?v85) ?i85 ?w85 ?y85 ?r85
  case' i85 => simp only [g1, g2, g3]
  case i85 => rfl
  case w85 => kernel_rfl
  case y85 => (intro W hSw; go_simp) <;> with_reducible rfl
  try simp only [Act.put, p1, p2, p3]
  refine tk1 5 (oi := ?o86) (v := ?v86) ?i86 ?w86 ?y86 ?r86
  case' i86 => simp only [g1, g2, g3]
  case i86 => rfl
  case w86 => kernel_rfl
  case y86 => (intro W hSw; go_simp) <;> with_reducible rfl
  try simp only [Act.put, p1, p2, p3]
  refine tk1 6 (oi := ?o87) (v := ?v87) ?i87 ?w87 ?y87 ?r87
  case' i87 => simp only [g1, g2, g3]
  case i87 => rfl
  case w87 => kernel_rfl
  case y87 => (intro W hSw; go_simp) <;> with_reducible rfl
  try simp only [Act.put, p1, p2, p3]
  refine tk1 7 (oi := ?o88) (v := ?v88) ?i88 ?w88 ?y88 ?r88
  case' i88 => simp only [g1, g2, g3]
  case i88 => rfl
  case w88 => kernel_rfl
  case y88 => (intro W hSw; go_simp) <;> with_reducible rfl
  try simp only [Act.put, p1, p2, p3]
  refine tk1 8 (oi := ?o89) (v := ?v89) ?i89 ?w89 ?y89 ?r89
  case' i89 => simp only [g1, g2, g3]
  case i89 => rfl
  case w89 => kernel_rfl
  case y89 => (intro W hSw; go_simp) <;> with_reducible rfl
  try simp only [Act.put, p1, p2, p3]
  refine tk1 9 (oi := ?o90) (v := ?v90) ?i90 ?w90 ?y90 ?r90
  case' i90 => simp only [g1, g2, g3]
  case i90 => rfl
  case w90 => kernel_rfl
  case y90 => (intro W hSw; obtain ⟨q8, q27⟩ := hSw; go_simp) <;> with_reducible rfl
  try simp only [Act.put, p1, p2, p3]
  refine tk1 10 (oi := ?o91) (v := ?v91) ?i91 ?w91 ?y91 ?r91
  case' i91 => simp only [g1, g2, g3]
  case i91 => rfl
  case w91 => kernel_rfl
  case y91 => (intro W hSw; go_simp) <;> with_reducible rfl
  try simp only [Act.put, p1, p2, p3]
  refine tk1 11 (oi := ?o92) (v := ?v92) ?i92 ?w92 ?y92 ?r92
  case' i92 => simp only [g1, g2, g3]
  case i92 => rfl
  case w92 => kernel_rfl
  case y92 => (intro W hSw; go_simp) <;> with_reducible rfl
  try simp only [Act.put, p1, p2, p3]
  refine tk1 12 (oi := ?o93) (v := ?v93) ?i93 ?w93 ?y93 ?r93
  case' i93 => simp only [g1, g2, g3]
  case i93 => rfl
  case w93 => kernel_rfl
  case y93 => (intro W hSw; go_simp) <;> with_reducible rfl
  try simp only [Act.put, p1, p2, p3]
  refine tk1 13 (oi := ?o94) (v := ?v94) ?i94 ?w94 ?y94 ?r94
  case' i94 => simp only [g1, g2, g3]
  case i94 => rfl
  case w94 => kernel_rfl
  case y94 => (intro W hSw; go_simp) <;> with_reducible rfl
  try simp only [Act.put, p1, p2, p3]
  refine tk1 14 (oi := ?o95) (v := ?v95) ?i95 ?w95 ?y95 ?r95
  case' i95 => simp only [g1, g2, g3]
  case i95 => rfl
  case w95 => kernel_rfl
  case y95 => (intro W hSw; obtain ⟨q8, q27⟩ := hSw; go_simp) <;> with_reducible rfl
  try simp only [Act.put, p1, p2, p3]
  refine wpAnyH_ready (rs := [15]) (by kernel_rfl) (by simp) ?_
  refine (AllReadyH.cons (o := ?o96_0) ?i96_0 (fun K' hK => ?g96_0) AllReadyH.nil)
  case' i96_0 => simp only [g1, g2, g3]
  case i96_0 => rfl
  go_simp
  go_at_call 120
  refine (tk_wrap g2 HT.out HHD.out).mono ?_
  rintro e' W1 (⟨⟨z, b⟩, ME1, hm, rfl, hT⟩ | ⟨c, ME1, hm, hc, rfl, hT⟩)
  · have E1 := Lib.hid hm
    have HTold := HT
    replace HT := Lib.hid hT
    clear hm hT
    have HBI := Lib.hid (boxG_i64 HTold.out.facts.2.1 HTold.out.facts.2.2 HTold.out.facts.1 E1.out)
    go_wp2_with fail
    refine hK.out _ _ (⟨(HT.out.at 3 rfl), (HT.out.at 22 rfl)⟩) (fun hHeld => ?_)
    clear hK K'
    try simp only [Act.put, p1, p2, p3]
    refine tk1 16 (oi := ?o97) (v := ?v97) ?i97 ?w97 ?y97 ?r97
    case' i97 => simp only [g1, g2, g3]
    case i97 => rfl
    case w97 => kernel_rfl
    case y97 => (intro W hSw; go_simp) <;> with_reducible rfl
    try simp only [Act.put, p1, p2, p3]
    refine tk1 17 (oi := ?o98) (v := ?v98) ?i98 ?w98 ?y98 ?r98
    case' i98 => simp only [g1, g2, g3]
    case i98 => rfl
    case w98 => kernel_rfl
    case y98 => (intro W hSw; go_simp) <;> with_reducible rfl
    try simp only [Act.put, p1, p2, p3]
    refine tk1 18 (oi := ?o99) (v := ?v99) ?i99 ?w99 ?y99 ?r99
    case' i99 => simp only [g1, g2, g3]
    case i99 => rfl
    case w99 => kernel_rfl
    case y99 => (intro W hSw; go_simp) <;> with_reducible rfl
    try simp only [Act.put, p1, p2, p3]
    refine wpAnyH_ready (rs := [19]) (by kernel_rfl) (by simp) ?_
    refine (AllReadyH.cons (o := ?o100_0) ?i100_0 (fun K' hK => ?g100_0) AllReadyH.nil)
    case' i100_0 => simp only [g1, g2, g3]
    case i100_0 => rfl
    have dst := HT.out.at 14 rfl
    have dfz := HT.out.fz 19
    go_simp
    replace HT := Lib.hid (HT.out.put g2 14 (.int .i64 b))
    clear dst dfz
    refine hK.out _ _ (⟨(HT.out.at 3 rfl), (HT.out.at 22 rfl)⟩) (fun hHeld => ?_)
    clear hK K'
    try simp only [Act.put, p1, p2, p3]
    refine wpAnyH_done (by kernel_rfl) ?_ _
    go_wp2_with fail
    go_end0
    exact .inl ⟨{ s with box := b, y := z }, _, by unfold bgWrap; exact (G.to_ok E1.out).trans (rfl), rfl, HT.out, ⟨HO.out.1, HO.out.2.1, HBI.out, HO.out.2.2.2⟩⟩
  · unfold Fell
    go_wp2_with fail
    exact ⟨rfl, .inr ⟨_, _, by unfold bgWrap; exact G.to_bad hm, hc, rfl, hT⟩⟩
set_option maxHeartbeats 1000000 in
theorem bg_sealMe (g2 : Good base Q2) {P : BgP} {s : Begun} (h : Tk base g most Q2 L L2 bs B 129 s.y (P.rest s) w0 w) (ho : BgOk s) (hd : I64 P.a1) :
    Calls Tryz.prog 56 #[.pointer (some ⟨B, 0, none⟩)] w (Gp (bgSealMe P s most L) (fun _ => .tuple #[]) (fun L' x w' => Tk base g most Q2 L' L2 bs B 129 x.y (P.rest x) w0 w' ∧ BgOk x) (fun L' w' => Cs base (PSq base g most) Q2 L' L2 bs w0 w')) := by
  have HT := Lib.hid h
  have HO := Lib.hid ho
  have HHD := Lib.hid hd
  clear h ho hd
  go_enter Tryz.func56, Tryz.ntmps56
  replace HT := Lib.hid (HT.out.drew g2)
  refine wp_region_held_drew (S := (fun W => W.cell? ⟨B, 0, none⟩ = some (.pointer (some ⟨g, 0, none⟩)) ∧ W.cell? ⟨B, 5, none⟩ = some (.int .i64 P.a1))) (by kernel_rfl) (⟨HT.out.c0, (HT.out.at 0 rfl)⟩) (fun hHeld => ?_)
  refine tk1 0 (oi := ?o101) (v := ?v101) ?i101 ?w101 ?y101 ?r101
  case' i101 => simp only [g1, g2, g3]
  case i101 => rfl
  case w101 => kernel_rfl
  case y101 => (intro W hSw; go_simp) <;> with_reducible rfl
  try simp only [Act.put, p1, p2, p3]
  refine tk1 1 (oi := ?o102) (v := ?v102) ?i102 ?w102 ?y102 ?r102
  case' i102 => simp only [g1, g2, g3]
  case i102 => rfl
  case w102 => kernel_rfl
  case y102 => (intro W hSw; go_simp) <;> with_reducible rfl
  try simp only [Act.put, p1, p2, p3]
  refine tk1 2 (oi := ?o103) (v := ?v103) ?i103 ?w103 ?y103 ?r103
  case' i103 => simp only [g1, g2, g3]
  case i103 => rfl
  case w103 => kernel_rfl
  case y103 => (intro W hSw; go_simp) <;> with_reducible rfl
  try simp only [Act.put, p1, p2, p3]
  refine tk1 3 (oi := ?o104) (v := ?v104) ?i104 ?w104 ?y104 ?r104
  case' i104 => simp only [g1, g2, g3]
  case i104 => rfl
  case w104 => kernel_rfl
  case y104 => (intro W hSw; go_simp) <;> with_reducible rfl
  try simp only [Act.put, p1, p2, p3]
  refine tk1 4 (oi := ?o105) (v := ?v105) ?i105 ?w105 ?y105 ?r105
  case' i105 => simp only [g1, g2, g3]
  case i105 => rfl
  case w105 => kernel_rfl
  case y105 => (intro W hSw; go_simp) <;> with_reducible rfl
  try simp only [Act.put, p1, p2, p3]
  refine tk1 5 (oi := ?o106) (v := ?v106) ?i106 ?w106 ?y106 ?r106
  case' i106 => simp only [g1, g2, g3]
  case i106 => rfl
  case w106 => kernel_rfl
  case y106 => (intro W hSw; go_simp) <;> with_reducible rfl
  try simp only [Act.put, p1, p2, p3]
  refine tk1 6 (oi := ?o107) (v := ?v107) ?i107 ?w107 ?y107 ?r107
  case' i107 => simp only [g1, g2, g3]
  case i107 => rfl
  case w107 => kernel_rfl
  case y107 => (intro W hSw; go_simp) <;> with_reducible rfl
  try simp only [Act.put, p1, p2, p3]
  refine tk1 7 (oi := ?o108) (v := ?v108) ?i108 ?w108 ?y108 ?r108
  case' i108 => simp only [g1, g2, g3]
  case i108 => rfl
  case w108 => kernel_rfl
  case y108 => (intro W hSw; go_simp) <;> with_reducible rfl
  try simp only [Act.put, p1, p2, p3]
  refine tk1 8 (oi := ?o109) (v := ?v109) ?i109 ?w109 ?y109 ?r109
  case' i109 => simp only [g1, g2, g3]
  case i109 => rfl
  case w109 => kernel_rfl
  case y109 => (intro W hSw; obtain ⟨q0, q5⟩ := hSw; go_simp) <;> with_reducible rfl
  try simp only [Act.put, p1, p2, p3]
  refine tk1 9 (oi := ?o110) (v := ?v110) ?i110 ?w110 ?y110 ?r110
  case' i110 => simp only [g1, g2, g3]
  case i110 => rfl
  case w110 => kernel_rfl
  case y110 => (intro W hSw; go_simp) <;> with_reducible rfl
  try simp only [Act.put, p1, p2, p3]
  refine tk1 10 (oi := ?o111) (v := ?v111) ?i111 ?w111 ?y111 ?r111
  case' i111 => simp only [g1, g2, g3]
  case i111 => rfl
  case w111 => kernel_rfl
  case y111 => (intro W hSw; go_simp) <;> with_reducible rfl
  try simp only [Act.put, p1, p2, p3]
  refine tk1 11 (oi := ?o112) (v := ?v112) ?i112 ?w112 ?y112 ?r112
  case' i112 => simp only [g1, g2, g3]
  case i112 => rfl
  case w112 => kernel_rfl
  case y112 => (intro W hSw; go_simp) <;> with_reducible rfl
  try simp only [Act.put, p1, p2, p3]
  refine tk1 12 (oi := ?o113) (v := ?v113) ?i113 ?w113 ?y113 ?r113
  case' i113 => simp only [g1, g2, g3]
  case i113 => rfl
  case w113 => kernel_rfl
  case y113 => (intro W hSw; go_simp) <;> with_reducible rfl
  try simp only [Act.put, p1, p2, p3]
  refine tk1 13 (oi := ?o114) (v := ?v114) ?i114 ?w114 ?y114 ?r114
  case' i114 => simp only [g1, g2, g3]
  case i114 => rfl
  case w114 => kernel_rfl
  case y114 => (intro W hSw; obtain ⟨q0, q5⟩ := hSw; go_simp) <;> with_reducible rfl
  try simp only [Act.put, p1, p2, p3]
  refine wpAnyH_ready (rs := [14]) (by kernel_rfl) (by simp) ?_
  refine (AllReadyH.cons (o := ?o115_0) ?i115_0 (fun K' hK => ?g115_0) AllReadyH.nil)
  case' i115_0 => simp only [g1, g2, g3]
  case i115_0 => rfl
  obtain ⟨a, e, MHF, hf⟩ : ∃ a e MHF, putF L most (pubT P.a1) = (a, e, MHF) := ⟨_, _, _, rfl⟩
  have HF := Lib.hid hf
  have HFs := Lib.hid (put_sd HT.out.cs.sound hf)
  have HFi := Lib.hid (name_i64 HT.out.facts.2.1 HT.out.facts.2.2 hf)
  clear hf
  go_simp
  go_at_call 46
  refine (HT.out.cs.pair.publicP g2 HHD.out HF.out).mono ?_
  rintro e' W1 ⟨rfl, hp, hk⟩
  replace HT := Lib.hid (HT.out.step hp hk HFs.out)
  clear hp hk
  go_wp2_with fail
  refine hK.out _ _ (⟨HT.out.c0, (HT.out.at 0 rfl)⟩) (fun hHeld => ?_)
  clear hK K'
  try simp only [Act.put, p1, p2, p3]
  refine tk1 15 (oi := ?o116) (v := ?v116) ?i116 ?w116 ?y116 ?r116
  case' i116 => simp only [g1, g2, g3]
  case i116 => rfl
  case w116 => kernel_rfl
  case y116 => (intro W hSw; go_simp) <;> with_reducible rfl
  try simp only [Act.put, p1, p2, p3]
  refine tk1 16 (oi := ?o117) (v := ?v117) ?i117 ?w117 ?y117 ?r117
  case' i117 => simp only [g1, g2, g3]
  case i117 => rfl
  case w117 => kernel_rfl
  case y117 => (intro W hSw; go_simp) <;> with_reducible rfl
  try simp only [Act.put, p1, p2, p3]
  refine wpAnyH_ready (rs := [17]) (by kernel_rfl) (by simp) ?_
  refine (AllReadyH.cons (o := ?o118_0) ?i118_0 (fun K' hK => ?g118_0) AllReadyH.nil)
  case' i118_0 => simp only [g1, g2, g3]
  case i118_0 => rfl
  go_simp
  go_at_call 118
  by_cases he : e = 0
  · subst he
    refine (got_yes _ _).mono ?_
    rintro e' W2 ⟨rfl, rfl⟩
    go_wp2_with fail
    refine hK.out _ _ (⟨HT.out.c0, (HT.out.at 0 rfl)⟩) (fun hHeld => ?_)
    clear hK K'
    try simp only [Act.put, p1, p2, p3]
    refine wpAnyH_ready (rs := [18]) (by kernel_rfl) (by simp) ?_
    refine (AllReadyH.cons (o := ?o119_0) ?i119_0 (fun K' hK => ?g119_0) AllReadyH.nil)
    case' i119_0 => simp only [g1, g2, g3]
    case i119_0 => rfl
    go_simp
    go_at_call 121
    refine (tk_seal g2 HT.out HFi.out).mono ?_
    rintro e' W1 (⟨⟨z, c⟩, ME1, hm, rfl, hT⟩ | ⟨c, ME1, hm, hc, rfl, hT⟩)
    · have E1 := Lib.hid hm
      have HTold := HT
      replace HT := Lib.hid hT
      clear hm hT
      have HBI := Lib.hid (sealG_i64 HTold.out.facts.2.1 HTold.out.facts.2.2 HTold.out.facts.1 HTold.out.wf E1.out)
      go_wp2_with fail
      refine hK.out _ _ (⟨HT.out.c0, (HT.out.at 0 rfl)⟩) (fun hHeld => ?_)
      clear hK K'
      try simp only [Act.put, p1, p2, p3]
      refine tk1 19 (oi := ?o120) (v := ?v120) ?i120 ?w120 ?y120 ?r120
      case' i120 => simp only [g1, g2, g3]
      case i120 => rfl
      case w120 => kernel_rfl
      case y120 => (intro W hSw; go_simp) <;> with_reducible rfl
      try simp only [Act.put, p1, p2, p3]
      refine tk1 20 (oi := ?o121) (v := ?v121) ?i121 ?w121 ?y121 ?r121
      case' i121 => simp only [g1, g2, g3]
      case i121 => rfl
      case w121 => kernel_rfl
      case y121 => (intro W hSw; go_simp) <;> with_reducible rfl
      try simp only [Act.put, p1, p2, p3]
      refine tk1 21 (oi := ?o122) (v := ?v122) ?i122 ?w122 ?y122 ?r122
      case' i122 => simp only [g1, g2, g3]
      case i122 => rfl
      case w122 => kernel_rfl
      case y122 => (intro W hSw; go_simp) <;> with_reducible rfl
      try simp only [Act.put, p1, p2, p3]
      refine wpAnyH_ready (rs := [22]) (by kernel_rfl) (by simp) ?_
      refine (AllReadyH.cons (o := ?o123_0) ?i123_0 (fun K' hK => ?g123_0) AllReadyH.nil)
      case' i123_0 => simp only [g1, g2, g3]
      case i123_0 => rfl
      have dst := HT.out.at 15 rfl
      have dfz := HT.out.fz 20
      go_simp
      replace HT := Lib.hid (HT.out.put g2 15 (.int .i64 c))
      clear dst dfz
      refine hK.out _ _ (⟨HT.out.c0, (HT.out.at 0 rfl)⟩) (fun hHeld => ?_)
      clear hK K'
      try simp only [Act.put, p1, p2, p3]
      refine wpAnyH_done (by kernel_rfl) ?_ _
      go_wp2_with fail
      go_end0
      exact .inl ⟨{ s with c1 := c, y := z }, _, by unfold bgSealMe; exact (G.to_ok (putG_ok HF.out)).trans ((G.to_ok E1.out).trans (rfl)), rfl, HT.out, ⟨HO.out.1, HO.out.2.1, HO.out.2.2.1, HBI.out, HO.out.2.2.2.2⟩⟩
    · unfold Fell
      go_wp2_with fail
      exact ⟨rfl, .inr ⟨_, _, by unfold bgSealMe; exact (G.to_ok (putG_ok HF.out)).trans (G.to_bad hm), hc, rfl, hT⟩⟩
  · have HE := Lib.hid he
    clear he
    refine (got_no _ _ HE.out _).mono ?_
    rintro e' W2 ⟨rfl, rfl⟩
    unfold Fell
    go_wp2_with fail
    exact ⟨rfl, .inr ⟨_, _, by unfold bgSealMe; exact G.to_bad (putG_no HF.out HE.out), HE.out, rfl, HT.out.fall⟩⟩
set_option maxHeartbeats 1000000 in
theorem bg_mixMe (g2 : Good base Q2) {P : BgP} {s : Begun} (h : Tk base g most Q2 L L2 bs B 129 s.y (P.rest s) w0 w) (ho : BgOk s) (hd : I64 P.a1) :
    Calls Tryz.prog 57 #[.pointer (some ⟨B, 0, none⟩)] w (Gp (bgMixMe P s most L) (fun _ => .tuple #[]) (fun L' x w' => Tk base g most Q2 L' L2 bs B 129 x.y (P.rest x) w0 w' ∧ BgOk x) (fun L' w' => Cs base (PSq base g most) Q2 L' L2 bs w0 w')) := by
  have HT := Lib.hid h
  have HO := Lib.hid ho
  have HHD := Lib.hid hd
  clear h ho hd
  go_enter Tryz.func57, Tryz.ntmps57
  replace HT := Lib.hid (HT.out.drew g2)
  refine wp_region_held_drew (S := (fun W => W.cell? ⟨B, 5, none⟩ = some (.int .i64 P.a1) ∧ W.cell? ⟨B, 7, none⟩ = some (.int .i64 P.p.dh))) (by kernel_rfl) (⟨(HT.out.at 0 rfl), (HT.out.at 2 rfl)⟩) (fun hHeld => ?_)
  refine tk1 0 (oi := ?o124) (v := ?v124) ?i124 ?w124 ?y124 ?r124
  case' i124 => simp only [g1, g2, g3]
  case i124 => rfl
  case w124 => kernel_rfl
  case y124 => (intro W hSw; go_simp) <;> with_reducible rfl
  try simp only [Act.put, p1, p2, p3]
  refine tk1 1 (oi := ?o125) (v := ?v125) ?i125 ?w125 ?y125 ?r125
  case' i125 => simp only [g1, g2, g3]
  case i125 => rfl
  case w125 => kernel_rfl
  case y125 => (intro W hSw; go_simp) <;> with_reducible rfl
  try simp only [Act.put, p1, p2, p3]
  refine tk1 2 (oi := ?o126) (v := ?v126) ?i126 ?w126 ?y126 ?r126
  case' i126 => simp only [g1, g2, g3]
  case i126 => rfl
  case w126 => kernel_rfl
  case y126 => (intro W hSw; go_simp) <;> with_reducible rfl
  try simp only [Act.put, p1, p2, p3]
  refine tk1 3 (oi := ?o127) (v := ?v127) ?i127 ?w127 ?y127 ?r127
  case' i127 => simp only [g1, g2, g3]
  case i127 => rfl
  case w127 => kernel_rfl
  case y127 => (intro W hSw; go_simp) <;> with_reducible rfl
  try simp only [Act.put, p1, p2, p3]
  refine tk1 4 (oi := ?o128) (v := ?v128) ?i128 ?w128 ?y128 ?r128
  case' i128 => simp only [g1, g2, g3]
  case i128 => rfl
  case w128 => kernel_rfl
  case y128 => (intro W hSw; go_simp) <;> with_reducible rfl
  try simp only [Act.put, p1, p2, p3]
  refine tk1 5 (oi := ?o129) (v := ?v129) ?i129 ?w129 ?y129 ?r129
  case' i129 => simp only [g1, g2, g3]
  case i129 => rfl
  case w129 => kernel_rfl
  case y129 => (intro W hSw; go_simp) <;> with_reducible rfl
  try simp only [Act.put, p1, p2, p3]
  refine tk1 6 (oi := ?o130) (v := ?v130) ?i130 ?w130 ?y130 ?r130
  case' i130 => simp only [g1, g2, g3]
  case i130 => rfl
  case w130 => kernel_rfl
  case y130 => (intro W hSw; go_simp) <;> with_reducible rfl
  try simp only [Act.put, p1, p2, p3]
  refine tk1 7 (oi := ?o131) (v := ?v131) ?i131 ?w131 ?y131 ?r131
  case' i131 => simp only [g1, g2, g3]
  case i131 => rfl
  case w131 => kernel_rfl
  case y131 => (intro W hSw; obtain ⟨q5, q7⟩ := hSw; go_simp) <;> with_reducible rfl
  try simp only [Act.put, p1, p2, p3]
  refine tk1 8 (oi := ?o132) (v := ?v132) ?i132 ?w132 ?y132 ?r132
  case' i132 => simp only [g1, g2, g3]
  case i132 => rfl
  case w132 => kernel_rfl
  case y132 => (intro W hSw; go_simp) <;> with_reducible rfl
  try simp only [Act.put, p1, p2, p3]
  refine tk1 9 (oi := ?o133) (v := ?v133) ?i133 ?w133 ?y133 ?r133
  case' i133 => simp only [g1, g2, g3]
  case i133 => rfl
  case w133 => kernel_rfl
  case y133 => (intro W hSw; go_simp) <;> with_reducible rfl
  try simp only [Act.put, p1, p2, p3]
  refine tk1 10 (oi := ?o134) (v := ?v134) ?i134 ?w134 ?y134 ?r134
  case' i134 => simp only [g1, g2, g3]
  case i134 => rfl
  case w134 => kernel_rfl
  case y134 => (intro W hSw; go_simp) <;> with_reducible rfl
  try simp only [Act.put, p1, p2, p3]
  refine tk1 11 (oi := ?o135) (v := ?v135) ?i135 ?w135 ?y135 ?r135
  case' i135 => simp only [g1, g2, g3]
  case i135 => rfl
  case w135 => kernel_rfl
  case y135 => (intro W hSw; go_simp) <;> with_reducible rfl
  try simp only [Act.put, p1, p2, p3]
  refine tk1 12 (oi := ?o136) (v := ?v136) ?i136 ?w136 ?y136 ?r136
  case' i136 => simp only [g1, g2, g3]
  case i136 => rfl
  case w136 => kernel_rfl
  case y136 => (intro W hSw; go_simp) <;> with_reducible rfl
  try simp only [Act.put, p1, p2, p3]
  refine tk1 13 (oi := ?o137) (v := ?v137) ?i137 ?w137 ?y137 ?r137
  case' i137 => simp only [g1, g2, g3]
  case i137 => rfl
  case w137 => kernel_rfl
  case y137 => (intro W hSw; obtain ⟨q5, q7⟩ := hSw; go_simp) <;> with_reducible rfl
  try simp only [Act.put, p1, p2, p3]
  refine wpAnyH_ready (rs := [14]) (by kernel_rfl) (by simp) ?_
  refine (AllReadyH.cons (o := ?o138_0) ?i138_0 (fun K' hK => ?g138_0) AllReadyH.nil)
  case' i138_0 => simp only [g1, g2, g3]
  case i138_0 => rfl
  go_simp
  go_at_call 119
  refine (tk_share g2 HT.out HHD.out).mono ?_
  rintro e' W1 (⟨z, ME1, hm, rfl, hT⟩ | ⟨c, ME1, hm, hc, rfl, hT⟩)
  · have E1 := Lib.hid hm
    have HTold := HT
    replace HT := Lib.hid hT
    clear hm hT
    go_wp2_with fail
    refine hK.out _ _ (⟨(HT.out.at 0 rfl), (HT.out.at 2 rfl)⟩) (fun hHeld => ?_)
    clear hK K'
    try simp only [Act.put, p1, p2, p3]
    refine wpAnyH_done (by kernel_rfl) ?_ _
    go_wp2_with fail
    go_end0
    exact .inl ⟨{ s with y := z }, _, by unfold bgMixMe; exact (G.to_ok E1.out).trans (rfl), rfl, HT.out, HO.out⟩
  · unfold Fell
    go_wp2_with fail
    exact ⟨rfl, .inr ⟨_, _, by unfold bgMixMe; exact G.to_bad hm, hc, rfl, hT⟩⟩
set_option maxHeartbeats 1000000 in
theorem bg_sealStamp (g2 : Good base Q2) {P : BgP} {s : Begun} (h : Tk base g most Q2 L L2 bs B 129 s.y (P.rest s) w0 w) (ho : BgOk s) (hs : (P.stamp : Int) ≤ 18446744073709551615) (hz : (Ms.putS P.stamp).size ≤ maxLen) :
    Calls Tryz.prog 59 #[.pointer (some ⟨B, 0, none⟩)] w (Gp (bgStamp P s most L) (fun _ => .tuple #[]) (fun L' x w' => Tk base g most Q2 L' L2 bs B 129 x.y (P.rest x) w0 w' ∧ BgOk x) (fun L' w' => Cs base (PSq base g most) Q2 L' L2 bs w0 w')) := by
  have HT := Lib.hid h
  have HO := Lib.hid ho
  have HHS := Lib.hid hs
  have HHZ := Lib.hid hz
  clear h ho hs hz
  go_enter Tryz.func59, Tryz.ntmps59
  replace HT := Lib.hid (HT.out.drew g2)
  refine wp_region_held_drew (S := (fun W => W.cell? ⟨B, 24, none⟩ = some (.int .u64 P.stamp))) (by kernel_rfl) ((HT.out.at 19 rfl)) (fun hHeld => ?_)
  refine tk1 0 (oi := ?o139) (v := ?v139) ?i139 ?w139 ?y139 ?r139
  case' i139 => simp only [g1, g2, g3]
  case i139 => rfl
  case w139 => kernel_rfl
  case y139 => (intro W hSw; go_simp) <;> with_reducible rfl
  try simp only [Act.put, p1, p2, p3]
  refine tk1 1 (oi := ?o140) (v := ?v140) ?i140 ?w140 ?y140 ?r140
  case' i140 => simp only [g1, g2, g3]
  case i140 => rfl
  case w140 => kernel_rfl
  case y140 => (intro W hSw; go_simp) <;> with_reducible rfl
  try simp only [Act.put, p1, p2, p3]
  refine tk1 2 (oi := ?o141) (v := ?v141) ?i141 ?w141 ?y141 ?r141
  case' i141 => simp only [g1, g2, g3]
  case i141 => rfl
  case w141 => kernel_rfl
  case y141 => (intro W hSw; go_simp) <;> with_reducible rfl
  try simp only [Act.put, p1, p2, p3]
  refine tk1 3 (oi := ?o142) (v := ?v142) ?i142 ?w142 ?y142 ?r142
  case' i142 => simp only [g1, g2, g3]
  case i142 => rfl
  case w142 => kernel_rfl
  case y142 => (intro W hSw; go_simp) <;> with_reducible rfl
  try simp only [Act.put, p1, p2, p3]
  refine tk1 4 (oi := ?o143) (v := ?v143) ?i143 ?w143 ?y143 ?r143
  case' i143 => simp only [g1, g2, g3]
  case i143 => rfl
  case w143 => kernel_rfl
  case y143 => (intro W hSw; go_simp) <;> with_reducible rfl
  try simp only [Act.put, p1, p2, p3]
  refine tk1 5 (oi := ?o144) (v := ?v144) ?i144 ?w144 ?y144 ?r144
  case' i144 => simp only [g1, g2, g3]
  case i144 => rfl
  case w144 => kernel_rfl
  case y144 => (intro W hSw; go_simp) <;> with_reducible rfl
  try simp only [Act.put, p1, p2, p3]
  refine tk1 6 (oi := ?o145) (v := ?v145) ?i145 ?w145 ?y145 ?r145
  case' i145 => simp only [g1, g2, g3]
  case i145 => rfl
  case w145 => kernel_rfl
  case y145 => (intro W hSw; go_simp) <;> with_reducible rfl
  try simp only [Act.put, p1, p2, p3]
  refine tk1 7 (oi := ?o146) (v := ?v146) ?i146 ?w146 ?y146 ?r146
  case' i146 => simp only [g1, g2, g3]
  case i146 => rfl
  case w146 => kernel_rfl
  case y146 => (intro W hSw; go_simp) <;> with_reducible rfl
  try simp only [Act.put, p1, p2, p3]
  refine tk1 8 (oi := ?o147) (v := ?v147) ?i147 ?w147 ?y147 ?r147
  case' i147 => simp only [g1, g2, g3]
  case i147 => rfl
  case w147 => kernel_rfl
  case y147 => (intro W hSw; go_simp) <;> with_reducible rfl
  try simp only [Act.put, p1, p2, p3]
  refine tk1 9 (oi := ?o148) (v := ?v148) ?i148 ?w148 ?y148 ?r148
  case' i148 => simp only [g1, g2, g3]
  case i148 => rfl
  case w148 => kernel_rfl
  case y148 => (intro W hSw; go_simp) <;> with_reducible rfl
  try simp only [Act.put, p1, p2, p3]
  refine tk1 10 (oi := ?o149) (v := ?v149) ?i149 ?w149 ?y149 ?r149
  case' i149 => simp only [g1, g2, g3]
  case i149 => rfl
  case w149 => kernel_rfl
  case y149 => (intro W hSw; have q := hSw; go_simp) <;> with_reducible rfl
  try simp only [Act.put, p1, p2, p3]
  refine wpAnyH_ready (rs := [11]) (by kernel_rfl) (by simp) ?_
  refine (AllReadyH.cons (o := ?o150_0) ?i150_0 (fun K' hK => ?g150_0) AllReadyH.nil)
  case' i150_0 => simp only [g1, g2, g3]
  case i150_0 => rfl
  go_simp
  go_at_call 124
  refine (Ms.put_any P.stamp _ HHS.out).mono ?_
  rintro e' W1 ⟨rfl, hb⟩
  replace HT := Lib.hid (HT.out.below g2 hb)
  clear hb
  go_wp2_with fail
  refine hK.out _ _ ((HT.out.at 19 rfl)) (fun hHeld => ?_)
  clear hK K'
  try simp only [Act.put, p1, p2, p3]
  refine wpAnyH_ready (rs := [12]) (by kernel_rfl) (by simp) ?_
  refine (AllReadyH.cons (o := ?o151_0) ?i151_0 (fun K' hK => ?g151_0) AllReadyH.nil)
  case' i151_0 => simp only [g1, g2, g3]
  case i151_0 => rfl
  go_simp
  go_at_call 123
  refine (tk_text g2 HT.out HHZ.out).mono ?_
  rintro e' W1 (⟨a, ME1, hm, rfl, hT⟩ | ⟨c, ME1, hm, hc, rfl, hT⟩)
  · have E1 := Lib.hid hm
    have HTold := HT
    replace HT := Lib.hid hT
    clear hm hT
    have HPI := Lib.hid (putG_i64 HTold.out.facts.2.1 HTold.out.facts.2.2 E1.out)
    go_wp2_with fail
    refine hK.out _ _ ((HT.out.at 19 rfl)) (fun hHeld => ?_)
    clear hK K'
    try simp only [Act.put, p1, p2, p3]
    refine wpAnyH_ready (rs := [13]) (by kernel_rfl) (by simp) ?_
    refine (AllReadyH.cons (o := ?o152_0) ?i152_0 (fun K' hK => ?g152_0) AllReadyH.nil)
    case' i152_0 => simp only [g1, g2, g3]
    case i152_0 => rfl
    go_simp
    go_at_call 121
    refine (tk_seal g2 HT.out HPI.out).mono ?_
    rintro e' W1 (⟨⟨z, c⟩, ME2, hm, rfl, hT⟩ | ⟨c, ME2, hm, hc, rfl, hT⟩)
    · have E2 := Lib.hid hm
      have HTold := HT
      replace HT := Lib.hid hT
      clear hm hT
      have HBI := Lib.hid (sealG_i64 HTold.out.facts.2.1 HTold.out.facts.2.2 HTold.out.facts.1 HTold.out.wf E2.out)
      go_wp2_with fail
      refine hK.out _ _ ((HT.out.at 19 rfl)) (fun hHeld => ?_)
      clear hK K'
      try simp only [Act.put, p1, p2, p3]
      refine tk1 14 (oi := ?o153) (v := ?v153) ?i153 ?w153 ?y153 ?r153
      case' i153 => simp only [g1, g2, g3]
      case i153 => rfl
      case w153 => kernel_rfl
      case y153 => (intro W hSw; go_simp) <;> with_reducible rfl
      try simp only [Act.put, p1, p2, p3]
      refine tk1 15 (oi := ?o154) (v := ?v154) ?i154 ?w154 ?y154 ?r154
      case' i154 => simp only [g1, g2, g3]
      case i154 => rfl
      case w154 => kernel_rfl
      case y154 => (intro W hSw; go_simp) <;> with_reducible rfl
      try simp only [Act.put, p1, p2, p3]
      refine tk1 16 (oi := ?o155) (v := ?v155) ?i155 ?w155 ?y155 ?r155
      case' i155 => simp only [g1, g2, g3]
      case i155 => rfl
      case w155 => kernel_rfl
      case y155 => (intro W hSw; go_simp) <;> with_reducible rfl
      try simp only [Act.put, p1, p2, p3]
      refine wpAnyH_ready (rs := [17]) (by kernel_rfl) (by simp) ?_
      refine (AllReadyH.cons (o := ?o156_0) ?i156_0 (fun K' hK => ?g156_0) AllReadyH.nil)
      case' i156_0 => simp only [g1, g2, g3]
      case i156_0 => rfl
      have dst := HT.out.at 16 rfl
      have dfz := HT.out.fz 21
      go_simp
      replace HT := Lib.hid (HT.out.put g2 16 (.int .i64 c))
      clear dst dfz
      refine hK.out _ _ ((HT.out.at 19 rfl)) (fun hHeld => ?_)
      clear hK K'
      try simp only [Act.put, p1, p2, p3]
      refine wpAnyH_done (by kernel_rfl) ?_ _
      go_wp2_with fail
      go_end0
      exact .inl ⟨{ s with c2 := c, y := z }, _, by unfold bgStamp; exact (G.to_ok E1.out).trans ((G.to_ok E2.out).trans (rfl)), rfl, HT.out, ⟨HO.out.1, HO.out.2.1, HO.out.2.2.1, HO.out.2.2.2.1, HBI.out⟩⟩
    · unfold Fell
      go_wp2_with fail
      exact ⟨rfl, .inr ⟨_, _, by unfold bgStamp; exact (G.to_ok E1.out).trans (G.to_bad hm), hc, rfl, hT⟩⟩
  · unfold Fell
    go_wp2_with fail
    exact ⟨rfl, .inr ⟨_, _, by unfold bgStamp; exact G.to_bad hm, hc, rfl, hT⟩⟩
end
end Go.Proofs.YtgeonppckeiceaaGreatDoor
