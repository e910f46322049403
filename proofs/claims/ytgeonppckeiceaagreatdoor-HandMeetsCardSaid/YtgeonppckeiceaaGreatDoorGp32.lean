/- The steps of Open (by tools/stage17/steps.py). -/
import Derived.Test.YtgeonppckeiceaaGreatDoorGp31
namespace Go.Proofs.YtgeonppckeiceaaGreatDoor
open Go.RowKit
set_option linter.unusedVariables false
set_option linter.unusedSimpArgs false
set_option maxRecDepth 20000
theorem publicsG_ok {L L' : List Tm} {most x y p q : Int} (h : hPublics most L (x, y) = ((p, q), 0, L')) : publicsG (x, y) most L = (.ok (p, q), L') := by
  obtain ⟨a, e1, L1, h1⟩ : ∃ a e M, putF L most (pubT x) = (a, e, M) := ⟨_, _, _, rfl⟩
  by_cases hz : e1 = 0
  · subst hz
    obtain ⟨b, e2, L2, h2⟩ : ∃ a e M, putF L1 most (kpubT y) = (a, e, M) := ⟨_, _, _, rfl⟩
    by_cases hz2 : e2 = 0
    · subst hz2
      have hw : publicsG (x, y) most L = (.ok (a, b), L2) := by unfold publicsG; rw [G.to_ok (putG_ok h1), G.to_ok (putG_ok h2)]; rfl
      unfold hPublics at h
      rw [hw] at h ⊢
      injection h with q1 q2
      injection q2 with q3 q4
      injection q1 with q5 q6
      rw [q5, q6, q4]
    · have hw : publicsG (x, y) most L = (.error e2, L2) := by unfold publicsG; rw [G.to_ok (putG_ok h1), G.to_bad (putG_no h2 hz2)]
      unfold hPublics at h
      rw [hw] at h
      injection h with q1 q2
      injection q2 with q3 q4
      exact absurd q3 hz2
  · have hw : publicsG (x, y) most L = (.error e1, L1) := by unfold publicsG; rw [G.to_bad (putG_no h1 hz)]
    unfold hPublics at h
    rw [hw] at h
    injection h with q1 q2
    injection q2 with q3 q4
    exact absurd q3 hz
theorem publicsG_no {L L' : List Tm} {most x y p q e : Int} (h : hPublics most L (x, y) = ((p, q), e, L')) (he : e ≠ 0) : publicsG (x, y) most L = (.error e, L') := by
  unfold hPublics at h
  cases hp : publicsG (x, y) most L with
  | mk r M =>
    rw [hp] at h
    cases r with
    | ok v => injection h with q1 q2; injection q2 with q3 q4; exact absurd q3.symm he
    | error c => injection h with q1 q2; injection q2 with q3 q4; rw [q3, q4]
theorem publics_i64 {L L' : List Tm} {most x y p q e : Int} (hl : (L.length : Int) ≤ most) (hm : most ≤ 1048576) (hf : Fit L) (h : hPublics most L (x, y) = ((p, q), e, L')) : I64 p ∧ I64 q := by
  obtain ⟨a, e1, L1, h1⟩ : ∃ a e M, putF L most (pubT x) = (a, e, M) := ⟨_, _, _, rfl⟩
  have f1 := fit_putF (t := pubT x) hf hl
  rw [h1] at f1
  unfold hPublics publicsG at h
  by_cases hz : e1 = 0
  · subst hz
    obtain ⟨b, e2, L2, h2⟩ : ∃ a e M, putF L1 most (kpubT y) = (a, e, M) := ⟨_, _, _, rfl⟩
    by_cases hz2 : e2 = 0
    · subst hz2
      rw [G.to_ok (putG_ok h1), G.to_ok (putG_ok h2)] at h
      injection h with q1 q2
      injection q1 with q5 q6
      rw [← q5, ← q6]
      exact ⟨name_i64 hl hm h1, name_i64 f1.2 hm h2⟩
    · rw [G.to_ok (putG_ok h1), G.to_bad (putG_no h2 hz2)] at h
      injection h with q1 q2
      injection q1 with q5 q6
      rw [← q5, ← q6]
      exact ⟨k0, k0⟩
  · rw [G.to_bad (putG_no h1 hz)] at h
    injection h with q1 q2
    injection q1 with q5 q6
    rw [← q5, ← q6]
    exact ⟨k0, k0⟩
section
variable {base g B : Nat} {most : Int} {Q2 : (Nat → Prop) → List Tm → World → Prop} {L L' L2 : List Tm} {bs : List (Nat × Obj)} {w0 w w' : World}
set_option maxHeartbeats 1000000 in
theorem op_check (g2 : Good base Q2) {P : OpP} {s : OpS} (h : Tk base g most Q2 L L2 bs B 140 s.y (P.rest s) w0 w) (hw : Ms.Ms.Wf P.m) :
    Calls Tryz.prog 70 #[.pointer (some ⟨B, 0, none⟩)] w (Gp (opCheck P s most L) (fun _ => .tuple #[]) (fun L' x w' => Tk base g most Q2 L' L2 bs B 140 x.y (P.rest x) w0 w') (fun L' w' => Cs base (PSq base g most) Q2 L' L2 bs w0 w')) := by
  have HT := Lib.hid h
  have HHW := Lib.hid hw
  clear h hw
  by_cases hc : P.m.i 0 = 1 ∧ Ms.rightM P.m = true
  · have HG : Hid (opCheck P s most L = (.ok s, L)) := Lib.hid (by unfold opCheck; rw [if_pos hc])
    have m0 := HT.out.at 4 rfl
    have m1 := HT.out.at 5 rfl
    have m2 := HT.out.at 6 rfl
    have m3 := HT.out.at 7 rfl
    have m4 := HT.out.at 8 rfl
    have m5 := HT.out.at 9 rfl
    have m6 := HT.out.at 10 rfl
    have m7 := HT.out.at 11 rfl
    have m8 := HT.out.at 12 rfl
    have m9 := HT.out.at 13 rfl
    have m10 := HT.out.at 14 rfl
    have m11 := HT.out.at 15 rfl
    have m12 := HT.out.at 16 rfl
    have HC := Lib.hid hc
    clear hc
    go_enter Tryz.func70, Tryz.ntmps70
    go_wp2_with fail
    refine (mustBe_yes (P.m) 1 _ HHW.out HC.out.1 HC.out.2).mono ?_
    rintro e' w1 ⟨rfl, hb⟩
    replace HT := Lib.hid (HT.out.below g2 hb)
    clear hb
    go_wp2_with fail
    go_end0
    exact .inl ⟨_, _, HG.out, rfl, HT.out⟩
  · have HG : Hid (opCheck P s most L = (.error 3, L)) := Lib.hid (by unfold opCheck; rw [if_neg hc])
    have m0 := HT.out.at 4 rfl
    have m1 := HT.out.at 5 rfl
    have m2 := HT.out.at 6 rfl
    have m3 := HT.out.at 7 rfl
    have m4 := HT.out.at 8 rfl
    have m5 := HT.out.at 9 rfl
    have m6 := HT.out.at 10 rfl
    have m7 := HT.out.at 11 rfl
    have m8 := HT.out.at 12 rfl
    have m9 := HT.out.at 13 rfl
    have m10 := HT.out.at 14 rfl
    have m11 := HT.out.at 15 rfl
    have m12 := HT.out.at 16 rfl
    have HC := Lib.hid hc
    clear hc
    go_enter Tryz.func70, Tryz.ntmps70
    go_wp2_with fail
    refine (mustBe_no (P.m) 1 _ HHW.out HC.out).mono ?_
    rintro e' w1 ⟨rfl, hb⟩
    replace HT := Lib.hid (HT.out.below g2 hb)
    clear hb
    unfold Fell
    go_wp2_with fail
    exact ⟨rfl, .inr ⟨_, _, HG.out, by decide, rfl, HT.out.fall⟩⟩
set_option maxHeartbeats 1000000 in
theorem op_chooseVersion (g2 : Good base Q2) {P : OpP} {s : OpS} (h : Tk base g most Q2 L L2 bs B 140 s.y (P.rest s) w0 w) (ha : P.mine.size ≤ maxLen) (hb : P.m.s.size ≤ maxLen) :
    Calls Tryz.prog 71 #[.pointer (some ⟨B, 0, none⟩)] w (Gp (opVersion P s most L) (fun _ => .tuple #[]) (fun L' x w' => Tk base g most Q2 L' L2 bs B 140 x.y (P.rest x) w0 w') (fun L' w' => Cs base (PSq base g most) Q2 L' L2 bs w0 w')) := by
  have HT := Lib.hid h
  have HHA := Lib.hid ha
  have HHB := Lib.hid hb
  obtain ⟨v, er, hbi⟩ : ∃ v er, Ms.BestIs P.mine P.m.s v er := ⟨_, _, rfl, rfl⟩
  have HBI := Lib.hid hbi
  have HGO : Hid (er = 0 → opVersion P s most L = (.ok { s with version := v }, L)) := Lib.hid (fun q => by unfold opVersion; rw [hbi.2, hbi.1, if_pos q])
  have HGN : Hid (er ≠ 0 → opVersion P s most L = (.error er, L)) := Lib.hid (fun q => by unfold opVersion; rw [hbi.2, if_neg q])
  clear hbi
  clear h ha hb
  go_enter Tryz.func71, Tryz.ntmps71
  replace HT := Lib.hid (HT.out.drew g2)
  refine wp_region_held_drew (S := (fun W => W.cell? ⟨B, 8, none⟩ = some (.string P.mine) ∧ W.cell? ⟨B, 12, none⟩ = some (.string P.m.s))) (by kernel_rfl) (⟨(HT.out.at 3 rfl), (HT.out.at 7 rfl)⟩) (fun hHeld => ?_)
  refine tk1 0 (oi := ?o187) (v := ?v187) ?i187 ?w187 ?y187 ?r187
  case' i187 => simp only [g1, g2, g3]
  case i187 => rfl
  case w187 => kernel_rfl
  case y187 => (intro W hSw; go_simp) <;> with_reducible rfl
  try simp only [Act.put, p1, p2, p3]
  refine tk1 1 (oi := ?o188) (v := ?v188) ?i188 ?w188 ?y188 ?r188
  case' i188 => simp only [g1, g2, g3]
  case i188 => rfl
  case w188 => kernel_rfl
  case y188 => (intro W hSw; go_simp) <;> with_reducible rfl
  try simp only [Act.put, p1, p2, p3]
  refine tk1 2 (oi := ?o189) (v := ?v189) ?i189 ?w189 ?y189 ?r189
  case' i189 => simp only [g1, g2, g3]
  case i189 => rfl
  case w189 => kernel_rfl
  case y189 => (intro W hSw; go_simp) <;> with_reducible rfl
  try simp only [Act.put, p1, p2, p3]
  refine tk1 3 (oi := ?o190) (v := ?v190) ?i190 ?w190 ?y190 ?r190
  case' i190 => simp only [g1, g2, g3]
  case i190 => rfl
  case w190 => kernel_rfl
  case y190 => (intro W hSw; go_simp) <;> with_reducible rfl
  try simp only [Act.put, p1, p2, p3]
  refine tk1 4 (oi := ?o191) (v := ?v191) ?i191 ?w191 ?y191 ?r191
  case' i191 => simp only [g1, g2, g3]
  case i191 => rfl
  case w191 => kernel_rfl
  case y191 => (intro W hSw; obtain ⟨q8, q12⟩ := hSw; go_simp) <;> with_reducible rfl
  try simp only [Act.put, p1, p2, p3]
  refine tk1 5 (oi := ?o192) (v := ?v192) ?i192 ?w192 ?y192 ?r192
  case' i192 => simp only [g1, g2, g3]
  case i192 => rfl
  case w192 => kernel_rfl
  case y192 => (intro W hSw; go_simp) <;> with_reducible rfl
  try simp only [Act.put, p1, p2, p3]
  refine tk1 6 (oi := ?o193) (v := ?v193) ?i193 ?w193 ?y193 ?r193
  case' i193 => simp only [g1, g2, g3]
  case i193 => rfl
  case w193 => kernel_rfl
  case y193 => (intro W hSw; go_simp) <;> with_reducible rfl
  try simp only [Act.put, p1, p2, p3]
  refine tk1 7 (oi := ?o194) (v := ?v194) ?i194 ?w194 ?y194 ?r194
  case' i194 => simp only [g1, g2, g3]
  case i194 => rfl
  case w194 => kernel_rfl
  case y194 => (intro W hSw; go_simp) <;> with_reducible rfl
  try simp only [Act.put, p1, p2, p3]
  refine tk1 8 (oi := ?o195) (v := ?v195) ?i195 ?w195 ?y195 ?r195
  case' i195 => simp only [g1, g2, g3]
  case i195 => rfl
  case w195 => kernel_rfl
  case y195 => (intro W hSw; go_simp) <;> with_reducible rfl
  try simp only [Act.put, p1, p2, p3]
  refine tk1 9 (oi := ?o196) (v := ?v196) ?i196 ?w196 ?y196 ?r196
  case' i196 => simp only [g1, g2, g3]
  case i196 => rfl
  case w196 => kernel_rfl
  case y196 => (intro W hSw; obtain ⟨q8, q12⟩ := hSw; go_simp) <;> with_reducible rfl
  try simp only [Act.put, p1, p2, p3]
  refine wpAnyH_ready (rs := [10]) (by kernel_rfl) (by simp) ?_
  refine (AllReadyH.cons (o := ?o197_0) ?i197_0 (fun K' hK => ?g197_0) AllReadyH.nil)
  case' i197_0 => simp only [g1, g2, g3]
  case i197_0 => rfl
  go_simp
  go_at_call 35
  refine (Ms.best_any P.mine P.m.s _ HHA.out HHB.out v er HBI).mono ?_
  rintro e' W1 ⟨rfl, hb⟩
  replace HT := Lib.hid (HT.out.below g2 hb)
  clear hb
  go_wp2_with fail
  refine hK.out _ _ (⟨(HT.out.at 3 rfl), (HT.out.at 7 rfl)⟩) (fun hHeld => ?_)
  clear hK K'
  try simp only [Act.put, p1, p2, p3]
  refine tk1 11 (oi := ?o198) (v := ?v198) ?i198 ?w198 ?y198 ?r198
  case' i198 => simp only [g1, g2, g3]
  case i198 => rfl
  case w198 => kernel_rfl
  case y198 => (intro W hSw; go_simp) <;> with_reducible rfl
  try simp only [Act.put, p1, p2, p3]
  refine tk1 12 (oi := ?o199) (v := ?v199) ?i199 ?w199 ?y199 ?r199
  case' i199 => simp only [g1, g2, g3]
  case i199 => rfl
  case w199 => kernel_rfl
  case y199 => (intro W hSw; go_simp) <;> with_reducible rfl
  try simp only [Act.put, p1, p2, p3]
  refine wpAnyH_ready (rs := [13]) (by kernel_rfl) (by simp) ?_
  refine (AllReadyH.cons (o := ?o200_0) ?i200_0 (fun K' hK => ?g200_0) AllReadyH.nil)
  case' i200_0 => simp only [g1, g2, g3]
  case i200_0 => rfl
  go_simp
  go_at_call 118
  by_cases he : er = 0
  · have HGE := Lib.hid (HGO.out he)
    subst he
    refine (got_yes _ _).mono ?_
    rintro e' W2 ⟨rfl, rfl⟩
    go_wp2_with fail
    refine hK.out _ _ (⟨(HT.out.at 3 rfl), (HT.out.at 7 rfl)⟩) (fun hHeld => ?_)
    clear hK K'
    try simp only [Act.put, p1, p2, p3]
    refine tk1 14 (oi := ?o201) (v := ?v201) ?i201 ?w201 ?y201 ?r201
    case' i201 => simp only [g1, g2, g3]
    case i201 => rfl
    case w201 => kernel_rfl
    case y201 => (intro W hSw; go_simp) <;> with_reducible rfl
    try simp only [Act.put, p1, p2, p3]
    refine tk1 15 (oi := ?o202) (v := ?v202) ?i202 ?w202 ?y202 ?r202
    case' i202 => simp only [g1, g2, g3]
    case i202 => rfl
    case w202 => kernel_rfl
    case y202 => (intro W hSw; go_simp) <;> with_reducible rfl
    try simp only [Act.put, p1, p2, p3]
    refine tk1 16 (oi := ?o203) (v := ?v203) ?i203 ?w203 ?y203 ?r203
    case' i203 => simp only [g1, g2, g3]
    case i203 => rfl
    case w203 => kernel_rfl
    case y203 => (intro W hSw; go_simp) <;> with_reducible rfl
    try simp only [Act.put, p1, p2, p3]
    refine wpAnyH_ready (rs := [17]) (by kernel_rfl) (by simp) ?_
    refine (AllReadyH.cons (o := ?o204_0) ?i204_0 (fun K' hK => ?g204_0) AllReadyH.nil)
    case' i204_0 => simp only [g1, g2, g3]
    case i204_0 => rfl
    have dst := HT.out.at 22 rfl
    have dfz := HT.out.fz 27
    go_simp
    replace HT := Lib.hid (HT.out.put g2 22 (.int .i64 v))
    clear dst dfz
    refine hK.out _ _ (⟨(HT.out.at 3 rfl), (HT.out.at 7 rfl)⟩) (fun hHeld => ?_)
    clear hK K'
    try simp only [Act.put, p1, p2, p3]
    refine wpAnyH_done (by kernel_rfl) ?_ _
    go_wp2_with fail
    go_end0
    exact .inl ⟨_, _, HGE.out, rfl, HT.out⟩
  · have HE := Lib.hid he
    clear he
    refine (got_no _ _ HE.out _).mono ?_
    rintro e' W2 ⟨rfl, rfl⟩
    unfold Fell
    go_wp2_with fail
    exact ⟨rfl, .inr ⟨_, _, HGN.out HE.out, HE.out, rfl, HT.out.fall⟩⟩
set_option maxHeartbeats 1000000 in
theorem op_first (g2 : Good base Q2) {P : OpP} {s : OpS} (h : Tk base g most Q2 L L2 bs B 140 s.y (P.rest s) w0 w) (ho1 : P.m.s.size ≤ maxLen) (hs : P.m.i 4 = 0 ∨ P.m.i 4 = 1) (hx : I64 P.x1) (hy : I64 P.x2) :
    Calls Tryz.prog 72 #[.pointer (some ⟨B, 0, none⟩)] w (Gp (opFirst P s most L) (fun _ => .tuple #[]) (fun L' x w' => Tk base g most Q2 L' L2 bs B 140 x.y (P.rest x) w0 w') (fun L' w' => Cs base (PSq base g most) Q2 L' L2 bs w0 w')) := by
  have HT := Lib.hid h
  have HHO1 := Lib.hid ho1
  have HHS := Lib.hid hs
  have HHX := Lib.hid hx
  have HHY := Lib.hid hy
  clear h ho1 hs hx hy
  go_enter Tryz.func72, Tryz.ntmps72
  replace HT := Lib.hid (HT.out.drew g2)
  refine wp_region_held_drew (S := (fun W => W.cell? ⟨B, 12, none⟩ = some (.string P.m.s) ∧ W.cell? ⟨B, 13, none⟩ = some (.int .i64 (P.m.i 4)) ∧ W.cell? ⟨B, 0, none⟩ = some (.pointer (some ⟨g, 0, none⟩)) ∧ W.cell? ⟨B, 5, none⟩ = some (.int .i64 P.x1) ∧ W.cell? ⟨B, 6, none⟩ = some (.int .i64 P.x2))) (by kernel_rfl) (⟨(HT.out.at 7 rfl), (HT.out.at 8 rfl), HT.out.c0, (HT.out.at 0 rfl), (HT.out.at 1 rfl)⟩) (fun hHeld => ?_)
  refine tk1 0 (oi := ?o205) (v := ?v205) ?i205 ?w205 ?y205 ?r205
  case' i205 => simp only [g1, g2, g3]
  case i205 => rfl
  case w205 => kernel_rfl
  case y205 => (intro W hSw; go_simp) <;> with_reducible rfl
  try simp only [Act.put, p1, p2, p3]
  refine tk1 1 (oi := ?o206) (v := ?v206) ?i206 ?w206 ?y206 ?r206
  case' i206 => simp only [g1, g2, g3]
  case i206 => rfl
  case w206 => kernel_rfl
  case y206 => (intro W hSw; go_simp) <;> with_reducible rfl
  try simp only [Act.put, p1, p2, p3]
  refine tk1 2 (oi := ?o207) (v := ?v207) ?i207 ?w207 ?y207 ?r207
  case' i207 => simp only [g1, g2, g3]
  case i207 => rfl
  case w207 => kernel_rfl
  case y207 => (intro W hSw; go_simp) <;> with_reducible rfl
  try simp only [Act.put, p1, p2, p3]
  refine tk1 3 (oi := ?o208) (v := ?v208) ?i208 ?w208 ?y208 ?r208
  case' i208 => simp only [g1, g2, g3]
  case i208 => rfl
  case w208 => kernel_rfl
  case y208 => (intro W hSw; go_simp) <;> with_reducible rfl
  try simp only [Act.put, p1, p2, p3]
  refine tk1 4 (oi := ?o209) (v := ?v209) ?i209 ?w209 ?y209 ?r209
  case' i209 => simp only [g1, g2, g3]
  case i209 => rfl
  case w209 => kernel_rfl
  case y209 => (intro W hSw; go_simp) <;> with_reducible rfl
  try simp only [Act.put, p1, p2, p3]
  refine tk1 5 (oi := ?o210) (v := ?v210) ?i210 ?w210 ?y210 ?r210
  case' i210 => simp only [g1, g2, g3]
  case i210 => rfl
  case w210 => kernel_rfl
  case y210 => (intro W hSw; go_simp) <;> with_reducible rfl
  try simp only [Act.put, p1, p2, p3]
  refine tk1 6 (oi := ?o211) (v := ?v211) ?i211 ?w211 ?y211 ?r211
  case' i211 => simp only [g1, g2, g3]
  case i211 => rfl
  case w211 => kernel_rfl
  case y211 => (intro W hSw; go_simp) <;> with_reducible rfl
  try simp only [Act.put, p1, p2, p3]
  refine tk1 7 (oi := ?o212) (v := ?v212) ?i212 ?w212 ?y212 ?r212
  case' i212 => simp only [g1, g2, g3]
  case i212 => rfl
  case w212 => kernel_rfl
  case y212 => (intro W hSw; obtain ⟨q12, q13, q0, q5, q6⟩ := hSw; go_simp) <;> with_reducible rfl
  try simp only [Act.put, p1, p2, p3]
  refine tk1 8 (oi := ?o213) (v := ?v213) ?i213 ?w213 ?y213 ?r213
  case' i213 => simp only [g1, g2, g3]
  case i213 => rfl
  case w213 => kernel_rfl
  case y213 => (intro W hSw; go_simp) <;> with_reducible rfl
  try simp only [Act.put, p1, p2, p3]
  refine tk1 9 (oi := ?o214) (v := ?v214) ?i214 ?w214 ?y214 ?r214
  case' i214 => simp only [g1, g2, g3]
  case i214 => rfl
  case w214 => kernel_rfl
  case y214 => (intro W hSw; go_simp) <;> with_reducible rfl
  try simp only [Act.put, p1, p2, p3]
  refine tk1 10 (oi := ?o215) (v := ?v215) ?i215 ?w215 ?y215 ?r215
  case' i215 => simp only [g1, g2, g3]
  case i215 => rfl
  case w215 => kernel_rfl
  case y215 => (intro W hSw; go_simp) <;> with_reducible rfl
  try simp only [Act.put, p1, p2, p3]
  refine tk1 11 (oi := ?o216) (v := ?v216) ?i216 ?w216 ?y216 ?r216
  case' i216 => simp only [g1, g2, g3]
  case i216 => rfl
  case w216 => kernel_rfl
  case y216 => (intro W hSw; go_simp) <;> with_reducible rfl
  try simp only [Act.put, p1, p2, p3]
  refine tk1 12 (oi := ?o217) (v := ?v217) ?i217 ?w217 ?y217 ?r217
  case' i217 => simp only [g1, g2, g3]
  case i217 => rfl
  case w217 => kernel_rfl
  case y217 => (intro W hSw; obtain ⟨q12, q13, q0, q5, q6⟩ := hSw; go_simp) <;> with_reducible rfl
  try simp only [Act.put, p1, p2, p3]
  refine tk1 13 (oi := ?o218) (v := ?v218) ?i218 ?w218 ?y218 ?r218
  case' i218 => simp only [g1, g2, g3]
  case i218 => rfl
  case w218 => kernel_rfl
  case y218 => (intro W hSw; go_simp) <;> with_reducible rfl
  try simp only [Act.put, p1, p2, p3]
  refine tk1 14 (oi := ?o219) (v := ?v219) ?i219 ?w219 ?y219 ?r219
  case' i219 => simp only [g1, g2, g3]
  case i219 => rfl
  case w219 => kernel_rfl
  case y219 => (intro W hSw; go_simp) <;> with_reducible rfl
  try simp only [Act.put, p1, p2, p3]
  refine tk1 15 (oi := ?o220) (v := ?v220) ?i220 ?w220 ?y220 ?r220
  case' i220 => simp only [g1, g2, g3]
  case i220 => rfl
  case w220 => kernel_rfl
  case y220 => (intro W hSw; go_simp) <;> with_reducible rfl
  try simp only [Act.put, p1, p2, p3]
  refine tk1 16 (oi := ?o221) (v := ?v221) ?i221 ?w221 ?y221 ?r221
  case' i221 => simp only [g1, g2, g3]
  case i221 => rfl
  case w221 => kernel_rfl
  case y221 => (intro W hSw; go_simp) <;> with_reducible rfl
  try simp only [Act.put, p1, p2, p3]
  refine tk1 17 (oi := ?o222) (v := ?v222) ?i222 ?w222 ?y222 ?r222
  case' i222 => simp only [g1, g2, g3]
  case i222 => rfl
  case w222 => kernel_rfl
  case y222 => (intro W hSw; obtain ⟨q12, q13, q0, q5, q6⟩ := hSw; go_simp) <;> with_reducible rfl
  try simp only [Act.put, p1, p2, p3]
  refine tk1 18 (oi := ?o223) (v := ?v223) ?i223 ?w223 ?y223 ?r223
  case' i223 => simp only [g1, g2, g3]
  case i223 => rfl
  case w223 => kernel_rfl
  case y223 => (intro W hSw; go_simp) <;> with_reducible rfl
  try simp only [Act.put, p1, p2, p3]
  refine tk1 19 (oi := ?o224) (v := ?v224) ?i224 ?w224 ?y224 ?r224
  case' i224 => simp only [g1, g2, g3]
  case i224 => rfl
  case w224 => kernel_rfl
  case y224 => (intro W hSw; go_simp) <;> with_reducible rfl
  try simp only [Act.put, p1, p2, p3]
  refine tk1 20 (oi := ?o225) (v := ?v225) ?i225 ?w225 ?y225 ?r225
  case' i225 => simp only [g1, g2, g3]
  case i225 => rfl
  case w225 => kernel_rfl
  case y225 => (intro W hSw; go_simp) <;> with_reducible rfl
  try simp only [Act.put, p1, p2, p3]
  refine tk1 21 (oi := ?o226) (v := ?v226) ?i226 ?w226 ?y226 ?r226
  case' i226 => simp only [g1, g2, g3]
  case i226 => rfl
  case w226 => kernel_rfl
  case y226 => (intro W hSw; obtain ⟨q12, q13, q0, q5, q6⟩ := hSw; go_simp) <;> with_reducible rfl
  try simp only [Act.put, p1, p2, p3]
  refine wpAnyH_ready (rs := [22]) (by kernel_rfl) (by simp) ?_
  refine (AllReadyH.cons (o := ?o227_0) ?i227_0 (fun K' hK => ?g227_0) AllReadyH.nil)
  case' i227_0 => simp only [g1, g2, g3]
  case i227_0 => rfl
  obtain ⟨p, q, e, M0, hf⟩ : ∃ p q e M0, hPublics most L (P.x1, P.x2) = ((p, q), e, M0) := ⟨_, _, _, _, rfl⟩
  have HF := Lib.hid hf
  have HPI := Lib.hid (publics_i64 HT.out.facts.2.1 HT.out.facts.2.2 HT.out.facts.1 hf)
  clear hf
  go_simp
  go_at_call 14
  refine (HT.out.cs.hpub g2 HHX.out HHY.out HF.out).mono ?_
  rintro e' W1 ⟨rfl, hc⟩
  replace HT := Lib.hid (Tk.mk hc HT.out.lo HT.out.new HT.out.wf)
  clear hc
  go_wp2_with fail
  refine hK.out _ _ (⟨(HT.out.at 7 rfl), (HT.out.at 8 rfl), HT.out.c0, (HT.out.at 0 rfl), (HT.out.at 1 rfl)⟩) (fun hHeld => ?_)
  clear hK K'
  try simp only [Act.put, p1, p2, p3]
  refine tk1 23 (oi := ?o228) (v := ?v228) ?i228 ?w228 ?y228 ?r228
  case' i228 => simp only [g1, g2, g3]
  case i228 => rfl
  case w228 => kernel_rfl
  case y228 => (intro W hSw; go_simp) <;> with_reducible rfl
  try simp only [Act.put, p1, p2, p3]
  refine tk1 24 (oi := ?o229) (v := ?v229) ?i229 ?w229 ?y229 ?r229
  case' i229 => simp only [g1, g2, g3]
  case i229 => rfl
  case w229 => kernel_rfl
  case y229 => (intro W hSw; go_simp) <;> with_reducible rfl
  try simp only [Act.put, p1, p2, p3]
  refine wpAnyH_ready (rs := [25]) (by kernel_rfl) (by simp) ?_
  refine (AllReadyH.cons (o := ?o230_0) ?i230_0 (fun K' hK => ?g230_0) AllReadyH.nil)
  case' i230_0 => simp only [g1, g2, g3]
  case i230_0 => rfl
  go_simp
  go_at_call 135
  by_cases he : e = 0
  · subst he
    refine (gotS_yes _ _ _).mono ?_
    rintro e' W2 ⟨rfl, hb⟩
    replace HT := Lib.hid (HT.out.below g2 hb)
    clear hb
    go_wp2_with fail
    refine hK.out _ _ (⟨(HT.out.at 7 rfl), (HT.out.at 8 rfl), HT.out.c0, (HT.out.at 0 rfl), (HT.out.at 1 rfl)⟩) (fun hHeld => ?_)
    clear hK K'
    try simp only [Act.put, p1, p2, p3]
    refine wpAnyH_ready (rs := [26]) (by kernel_rfl) (by simp) ?_
    refine (AllReadyH.cons (o := ?o231_0) ?i231_0 (fun K' hK => ?g231_0) AllReadyH.nil)
    case' i231_0 => simp only [g1, g2, g3]
    case i231_0 => rfl
    go_simp
    go_at_call 116
    refine (tk_first g2 HT.out HHO1.out HHS.out HPI.out.1 HPI.out.2).mono ?_
    rintro e' W1 (⟨z, ME1, hm, rfl, hT⟩ | ⟨c, ME1, hm, hc, rfl, hT⟩)
    · have E1 := Lib.hid hm
      have HTold := HT
      replace HT := Lib.hid hT
      clear hm hT
      go_wp2_with fail
      refine hK.out _ _ (⟨(HT.out.at 7 rfl), (HT.out.at 8 rfl), HT.out.c0, (HT.out.at 0 rfl), (HT.out.at 1 rfl)⟩) (fun hHeld => ?_)
      clear hK K'
      try simp only [Act.put, p1, p2, p3]
      refine wpAnyH_done (by kernel_rfl) ?_ _
      go_wp2_with fail
      go_end0
      exact .inl ⟨{ s with y := z }, _, by unfold opFirst; exact (G.to_ok (publicsG_ok HF.out)).trans ((G.to_ok E1.out).trans (rfl)), rfl, HT.out⟩
    · unfold Fell
      go_wp2_with fail
      exact ⟨rfl, .inr ⟨_, _, by unfold opFirst; exact (G.to_ok (publicsG_ok HF.out)).trans (G.to_bad hm), hc, rfl, hT⟩⟩
  · have HE := Lib.hid he
    clear he
    refine (gotS_no _ _ _ HE.out _).mono ?_
    rintro e' W2 ⟨rfl, hb⟩
    replace HT := Lib.hid (HT.out.below g2 hb)
    clear hb
    unfold Fell
    go_wp2_with fail
    exact ⟨rfl, .inr ⟨_, _, by unfold opFirst; exact G.to_bad (publicsG_no HF.out HE.out), HE.out, rfl, HT.out.fall⟩⟩
set_option maxHeartbeats 1000000 in
theorem op_mixE (g2 : Good base Q2) {P : OpP} {s : OpS} (h : Tk base g most Q2 L L2 bs B 140 s.y (P.rest s) w0 w) (hx : I64 P.x1) :
    Calls Tryz.prog 74 #[.pointer (some ⟨B, 0, none⟩)] w (Gp (opMixE P s most L) (fun _ => .tuple #[]) (fun L' x w' => Tk base g most Q2 L' L2 bs B 140 x.y (P.rest x) w0 w') (fun L' w' => Cs base (PSq base g most) Q2 L' L2 bs w0 w')) := by
  have HT := Lib.hid h
  have HHX := Lib.hid hx
  clear h hx
  go_enter Tryz.func74, Tryz.ntmps74
  replace HT := Lib.hid (HT.out.drew g2)
  refine wp_region_held_drew (S := (fun W => W.cell? ⟨B, 5, none⟩ = some (.int .i64 P.x1) ∧ W.cell? ⟨B, 15, none⟩ = some (.int .i64 (P.m.i 6)))) (by kernel_rfl) (⟨(HT.out.at 0 rfl), (HT.out.at 10 rfl)⟩) (fun hHeld => ?_)
  refine tk1 0 (oi := ?o232) (v := ?v232) ?i232 ?w232 ?y232 ?r232
  case' i232 => simp only [g1, g2, g3]
  case i232 => rfl
  case w232 => kernel_rfl
  case y232 => (intro W hSw; go_simp) <;> with_reducible rfl
  try simp only [Act.put, p1, p2, p3]
  refine tk1 1 (oi := ?o233) (v := ?v233) ?i233 ?w233 ?y233 ?r233
  case' i233 => simp only [g1, g2, g3]
  case i233 => rfl
  case w233 => kernel_rfl
  case y233 => (intro W hSw; go_simp) <;> with_reducible rfl
  try simp only [Act.put, p1, p2, p3]
  refine tk1 2 (oi := ?o234) (v := ?v234) ?i234 ?w234 ?y234 ?r234
  case' i234 => simp only [g1, g2, g3]
  case i234 => rfl
  case w234 => kernel_rfl
  case y234 => (intro W hSw; go_simp) <;> with_reducible rfl
  try simp only [Act.put, p1, p2, p3]
  refine tk1 3 (oi := ?o235) (v := ?v235) ?i235 ?w235 ?y235 ?r235
  case' i235 => simp only [g1, g2, g3]
  case i235 => rfl
  case w235 => kernel_rfl
  case y235 => (intro W hSw; go_simp) <;> with_reducible rfl
  try simp only [Act.put, p1, p2, p3]
  refine tk1 4 (oi := ?o236) (v := ?v236) ?i236 ?w236 ?y236 ?r236
  case' i236 => simp only [g1, g2, g3]
  case i236 => rfl
  case w236 => kernel_rfl
  case y236 => (intro W hSw; go_simp) <;> with_reducible rfl
  try simp only [Act.put, p1, p2, p3]
  refine tk1 5 (oi := ?o237) (v := ?v237) ?i237 ?w237 ?y237 ?r237
  case' i237 => simp only [g1, g2, g3]
  case i237 => rfl
  case w237 => kernel_rfl
  case y237 => (intro W hSw; go_simp) <;> with_reducible rfl
  try simp only [Act.put, p1, p2, p3]
  refine tk1 6 (oi := ?o238) (v := ?v238) ?i238 ?w238 ?y238 ?r238
  case' i238 => simp only [g1, g2, g3]
  case i238 => rfl
  case w238 => kernel_rfl
  case y238 => (intro W hSw; go_simp) <;> with_reducible rfl
  try simp only [Act.put, p1, p2, p3]
  refine tk1 7 (oi := ?o239) (v := ?v239) ?i239 ?w239 ?y239 ?r239
  case' i239 => simp only [g1, g2, g3]
  case i239 => rfl
  case w239 => kernel_rfl
  case y239 => (intro W hSw; obtain ⟨q5, q15⟩ := hSw; go_simp) <;> with_reducible rfl
  try simp only [Act.put, p1, p2, p3]
  refine tk1 8 (oi := ?o240) (v := ?v240) ?i240 ?w240 ?y240 ?r240
  case' i240 => simp only [g1, g2, g3]
  case i240 => rfl
  case w240 => kernel_rfl
  case y240 => (intro W hSw; go_simp) <;> with_reducible rfl
  try simp only [Act.put, p1, p2, p3]
  refine tk1 9 (oi := ?o241) (v := ?v241) ?i241 ?w241 ?y241 ?r241
  case' i241 => simp only [g1, g2, g3]
  case i241 => rfl
  case w241 => kernel_rfl
  case y241 => (intro W hSw; go_simp) <;> with_reducible rfl
  try simp only [Act.put, p1, p2, p3]
  refine tk1 10 (oi := ?o242) (v := ?v242) ?i242 ?w242 ?y242 ?r242
  case' i242 => simp only [g1, g2, g3]
  case i242 => rfl
  case w242 => kernel_rfl
  case y242 => (intro W hSw; go_simp) <;> with_reducible rfl
  try simp only [Act.put, p1, p2, p3]
  refine tk1 11 (oi := ?o243) (v := ?v243) ?i243 ?w243 ?y243 ?r243
  case' i243 => simp only [g1, g2, g3]
  case i243 => rfl
  case w243 => kernel_rfl
  case y243 => (intro W hSw; go_simp) <;> with_reducible rfl
  try simp only [Act.put, p1, p2, p3]
  refine tk1 12 (oi := ?o244) (v := ?v244) ?i244 ?w244 ?y244 ?r244
  case' i244 => simp only [g1, g2, g3]
  case i244 => rfl
  case w244 => kernel_rfl
  case y244 => (intro W hSw; obtain ⟨q5, q15⟩ := hSw; go_simp) <;> with_reducible rfl
  try simp only [Act.put, p1, p2, p3]
  refine wpAnyH_ready (rs := [13]) (by kernel_rfl) (by simp) ?_
  refine (AllReadyH.cons (o := ?o245_0) ?i245_0 (fun K' hK => ?g245_0) AllReadyH.nil)
  case' i245_0 => simp only [g1, g2, g3]
  case i245_0 => rfl
  go_simp
  go_at_call 119
  refine (tk_share g2 HT.out HHX.out).mono ?_
  rintro e' W1 (⟨z, ME1, hm, rfl, hT⟩ | ⟨c, ME1, hm, hc, rfl, hT⟩)
  · have E1 := Lib.hid hm
    have HTold := HT
    replace HT := Lib.hid hT
    clear hm hT
    go_wp2_with fail
    refine hK.out _ _ (⟨(HT.out.at 0 rfl), (HT.out.at 10 rfl)⟩) (fun hHeld => ?_)
    clear hK K'
    try simp only [Act.put, p1, p2, p3]
    refine wpAnyH_done (by kernel_rfl) ?_ _
    go_wp2_with fail
    go_end0
    exact .inl ⟨{ s with y := z }, _, by unfold opMixE; exact (G.to_ok E1.out).trans (rfl), rfl, HT.out⟩
  · unfold Fell
    go_wp2_with fail
    exact ⟨rfl, .inr ⟨_, _, by unfold opMixE; exact G.to_bad hm, hc, rfl, hT⟩⟩
set_option maxHeartbeats 1000000 in
theorem op_unwrapSecret (g2 : Good base Q2) {P : OpP} {s : OpS} (h : Tk base g most Q2 L L2 bs B 140 s.y (P.rest s) w0 w) (hx : I64 P.x2) (hy : I64 (P.m.i 8)) :
    Calls Tryz.prog 75 #[.pointer (some ⟨B, 0, none⟩)] w (Gp (opUnwrap P s most L) (fun _ => .tuple #[]) (fun L' x w' => Tk base g most Q2 L' L2 bs B 140 x.y (P.rest x) w0 w') (fun L' w' => Cs base (PSq base g most) Q2 L' L2 bs w0 w')) := by
  have HT := Lib.hid h
  have HHX := Lib.hid hx
  have HHY := Lib.hid hy
  clear h hx hy
  go_enter Tryz.func75, Tryz.ntmps75
  replace HT := Lib.hid (HT.out.drew g2)
  refine wp_region_held_drew (S := (fun W => W.cell? ⟨B, 6, none⟩ = some (.int .i64 P.x2) ∧ W.cell? ⟨B, 17, none⟩ = some (.int .i64 (P.m.i 8)))) (by kernel_rfl) (⟨(HT.out.at 1 rfl), (HT.out.at 12 rfl)⟩) (fun hHeld => ?_)
  refine tk1 0 (oi := ?o246) (v := ?v246) ?i246 ?w246 ?y246 ?r246
  case' i246 => simp only [g1, g2, g3]
  case i246 => rfl
  case w246 => kernel_rfl
  case y246 => (intro W hSw; go_simp) <;> with_reducible rfl
  try simp only [Act.put, p1, p2, p3]
  refine tk1 1 (oi := ?o247) (v := ?v247) ?i247 ?w247 ?y247 ?r247
  case' i247 => simp only [g1, g2, g3]
  case i247 => rfl
  case w247 => kernel_rfl
  case y247 => (intro W hSw; go_simp) <;> with_reducible rfl
  try simp only [Act.put, p1, p2, p3]
  refine tk1 2 (oi := ?o248) (v := ?v248) ?i248 ?w248 ?y248 ?r248
  case' i248 => simp only [g1, g2, g3]
  case i248 => rfl
  case w248 => kernel_rfl
  case y248 => (intro W hSw; go_simp) <;> with_reducible rfl
  try simp only [Act.put, p1, p2, p3]
  refine tk1 3 (oi := ?o249) (v := ?v249) ?i249 ?w249 ?y249 ?r249
  case' i249 => simp only [g1, g2, g3]
  case i249 => rfl
  case w249 => kernel_rfl
  case y249 => (intro W hSw; go_simp) <;> with_reducible rfl
  try simp only [Act.put, p1, p2, p3]
  refine tk1 4 (oi := ?o250) (v := ?v250) ?i250 ?w250 ?y250 ?r250
  case' i250 => simp only [g1, g2, g3]
  case i250 => rfl
  case w250 => kernel_rfl
  case y250 => (intro W hSw; go_simp) <;> with_reducible rfl
  try simp only [Act.put, p1, p2, p3]
  refine tk1 5 (oi := ?o251) (v := ?v251) ?i251 ?w251 ?y251 ?r251
  case' i251 => simp only [g1, g2, g3]
  case i251 => rfl
  case w251 => kernel_rfl
  case y251 => (intro W hSw; go_simp) <;> with_reducible rfl
  try simp only [Act.put, p1, p2, p3]
  refine tk1 6 (oi := ?o252) (v := ?v252) ?i252 ?w252 ?y252 ?r252
  case' i252 => simp only [g1, g2, g3]
  case i252 => rfl
  case w252 => kernel_rfl
  case y252 => (intro W hSw; go_simp) <;> with_reducible rfl
  try simp only [Act.put, p1, p2, p3]
  refine tk1 7 (oi := ?o253) (v := ?v253) ?i253 ?w253 ?y253 ?r253
  case' i253 => simp only [g1, g2, g3]
  case i253 => rfl
  case w253 => kernel_rfl
  case y253 => (intro W hSw; obtain ⟨q6, q17⟩ := hSw; go_simp) <;> with_reducible rfl
  try simp only [Act.put, p1, p2, p3]
  refine tk1 8 (oi := ?o254) (v := ?v254) ?i254 ?w254 ?y254 ?r254
  case' i254 => simp only [g1, g2, g3]
  case i254 => rfl
  case w254 => kernel_rfl
  case y254 => (intro W hSw; go_simp) <;> with_reducible rfl
  try simp only [Act.put, p1, p2, p3]
  refine tk1 9 (oi := ?o255) (v := ?v255) ?i255 ?w255 ?y255 ?r255
  case' i255 => simp only [g1, g2, g3]
  case i255 => rfl
  case w255 => kernel_rfl
  case y255 => (intro W hSw; go_simp) <;> with_reducible rfl
  try simp only [Act.put, p1, p2, p3]
  refine tk1 10 (oi := ?o256) (v := ?v256) ?i256 ?w256 ?y256 ?r256
  case' i256 => simp only [g1, g2, g3]
  case i256 => rfl
  case w256 => kernel_rfl
  case y256 => (intro W hSw; go_simp) <;> with_reducible rfl
  try simp only [Act.put, p1, p2, p3]
  refine tk1 11 (oi := ?o257) (v := ?v257) ?i257 ?w257 ?y257 ?r257
  case' i257 => simp only [g1, g2, g3]
  case i257 => rfl
  case w257 => kernel_rfl
  case y257 => (intro W hSw; go_simp) <;> with_reducible rfl
  try simp only [Act.put, p1, p2, p3]
  refine tk1 12 (oi := ?o258) (v := ?v258) ?i258 ?w258 ?y258 ?r258
  case' i258 => simp only [g1, g2, g3]
  case i258 => rfl
  case w258 => kernel_rfl
  case y258 => (intro W hSw; obtain ⟨q6, q17⟩ := hSw; go_simp) <;> with_reducible rfl
  try simp only [Act.put, p1, p2, p3]
  refine wpAnyH_ready (rs := [13]) (by kernel_rfl) (by simp) ?_
  refine (AllReadyH.cons (o := ?o259_0) ?i259_0 (fun K' hK => ?g259_0) AllReadyH.nil)
  case' i259_0 => simp only [g1, g2, g3]
  case i259_0 => rfl
  go_simp
  go_at_call 137
  refine (tk_unwrap g2 HT.out HHX.out HHY.out).mono ?_
  rintro e' W1 (⟨z, ME1, hm, rfl, hT⟩ | ⟨c, ME1, hm, hc, rfl, hT⟩)
  · have E1 := Lib.hid hm
    have HTold := HT
    replace HT := Lib.hid hT
    clear hm hT
    go_wp2_with fail
    refine hK.out _ _ (⟨(HT.out.at 1 rfl), (HT.out.at 12 rfl)⟩) (fun hHeld => ?_)
    clear hK K'
    try simp only [Act.put, p1, p2, p3]
    refine wpAnyH_done (by kernel_rfl) ?_ _
    go_wp2_with fail
    go_end0
    exact .inl ⟨{ s with y := z }, _, by unfold opUnwrap; exact (G.to_ok E1.out).trans (rfl), rfl, HT.out⟩
  · unfold Fell
    go_wp2_with fail
    exact ⟨rfl, .inr ⟨_, _, by unfold opUnwrap; exact G.to_bad hm, hc, rfl, hT⟩⟩
set_option maxHeartbeats 1000000 in
theorem op_openPub (g2 : Good base Q2) {P : OpP} {s : OpS} (h : Tk base g most Q2 L L2 bs B 140 s.y (P.rest s) w0 w) (hx : I64 (P.m.i 9)) :
    Calls Tryz.prog 76 #[.pointer (some ⟨B, 0, none⟩)] w (Gp (opPub P s most L) (fun _ => .tuple #[]) (fun L' x w' => Tk base g most Q2 L' L2 bs B 140 x.y (P.rest x) w0 w') (fun L' w' => Cs base (PSq base g most) Q2 L' L2 bs w0 w')) := by
  have HT := Lib.hid h
  have HHX := Lib.hid hx
  clear h hx
  go_enter Tryz.func76, Tryz.ntmps76
  replace HT := Lib.hid (HT.out.drew g2)
  refine wp_region_held_drew (S := (fun W => W.cell? ⟨B, 18, none⟩ = some (.int .i64 (P.m.i 9)))) (by kernel_rfl) ((HT.out.at 13 rfl)) (fun hHeld => ?_)
  refine tk1 0 (oi := ?o260) (v := ?v260) ?i260 ?w260 ?y260 ?r260
  case' i260 => simp only [g1, g2, g3]
  case i260 => rfl
  case w260 => kernel_rfl
  case y260 => (intro W hSw; go_simp) <;> with_reducible rfl
  try simp only [Act.put, p1, p2, p3]
  refine tk1 1 (oi := ?o261) (v := ?v261) ?i261 ?w261 ?y261 ?r261
  case' i261 => simp only [g1, g2, g3]
  case i261 => rfl
  case w261 => kernel_rfl
  case y261 => (intro W hSw; go_simp) <;> with_reducible rfl
  try simp only [Act.put, p1, p2, p3]
  refine tk1 2 (oi := ?o262) (v := ?v262) ?i262 ?w262 ?y262 ?r262
  case' i262 => simp only [g1, g2, g3]
  case i262 => rfl
  case w262 => kernel_rfl
  case y262 => (intro W hSw; go_simp) <;> with_reducible rfl
  try simp only [Act.put, p1, p2, p3]
  refine tk1 3 (oi := ?o263) (v := ?v263) ?i263 ?w263 ?y263 ?r263
  case' i263 => simp only [g1, g2, g3]
  case i263 => rfl
  case w263 => kernel_rfl
  case y263 => (intro W hSw; go_simp) <;> with_reducible rfl
  try simp only [Act.put, p1, p2, p3]
  refine tk1 4 (oi := ?o264) (v := ?v264) ?i264 ?w264 ?y264 ?r264
  case' i264 => simp only [g1, g2, g3]
  case i264 => rfl
  case w264 => kernel_rfl
  case y264 => (intro W hSw; go_simp) <;> with_reducible rfl
  try simp only [Act.put, p1, p2, p3]
  refine tk1 5 (oi := ?o265) (v := ?v265) ?i265 ?w265 ?y265 ?r265
  case' i265 => simp only [g1, g2, g3]
  case i265 => rfl
  case w265 => kernel_rfl
  case y265 => (intro W hSw; go_simp) <;> with_reducible rfl
  try simp only [Act.put, p1, p2, p3]
  refine tk1 6 (oi := ?o266) (v := ?v266) ?i266 ?w266 ?y266 ?r266
  case' i266 => simp only [g1, g2, g3]
  case i266 => rfl
  case w266 => kernel_rfl
  case y266 => (intro W hSw; go_simp) <;> with_reducible rfl
  try simp only [Act.put, p1, p2, p3]
  refine tk1 7 (oi := ?o267) (v := ?v267) ?i267 ?w267 ?y267 ?r267
  case' i267 => simp only [g1, g2, g3]
  case i267 => rfl
  case w267 => kernel_rfl
  case y267 => (intro W hSw; go_simp) <;> with_reducible rfl
  try simp only [Act.put, p1, p2, p3]
  refine tk1 8 (oi := ?o268) (v := ?v268) ?i268 ?w268 ?y268 ?r268
  case' i268 => simp only [g1, g2, g3]
  case i268 => rfl
  case w268 => kernel_rfl
  case y268 => (intro W hSw; have q := hSw; go_simp) <;> with_reducible rfl
  try simp only [Act.put, p1, p2, p3]
  refine wpAnyH_ready (rs := [9]) (by kernel_rfl) (by simp) ?_
  refine (AllReadyH.cons (o := ?o269_0) ?i269_0 (fun K' hK => ?g269_0) AllReadyH.nil)
  case' i269_0 => simp only [g1, g2, g3]
  case i269_0 => rfl
  go_simp
  go_at_call 138
  refine (tk_open g2 HT.out HHX.out).mono ?_
  rintro e' W1 (⟨⟨z, c⟩, ME1, hm, rfl, hT⟩ | ⟨c, ME1, hm, hc, rfl, hT⟩)
  · have E1 := Lib.hid hm
    have HTold := HT
    replace HT := Lib.hid hT
    clear hm hT
    go_wp2_with fail
    refine hK.out _ _ ((HT.out.at 13 rfl)) (fun hHeld => ?_)
    clear hK K'
    try simp only [Act.put, p1, p2, p3]
    refine tk1 10 (oi := ?o270) (v := ?v270) ?i270 ?w270 ?y270 ?r270
    case' i270 => simp only [g1, g2, g3]
    case i270 => rfl
    case w270 => kernel_rfl
    case y270 => (intro W hSw; go_simp) <;> with_reducible rfl
    try simp only [Act.put, p1, p2, p3]
    refine tk1 11 (oi := ?o271) (v := ?v271) ?i271 ?w271 ?y271 ?r271
    case' i271 => simp only [g1, g2, g3]
    case i271 => rfl
    case w271 => kernel_rfl
    case y271 => (intro W hSw; go_simp) <;> with_reducible rfl
    try simp only [Act.put, p1, p2, p3]
    refine tk1 12 (oi := ?o272) (v := ?v272) ?i272 ?w272 ?y272 ?r272
    case' i272 => simp only [g1, g2, g3]
    case i272 => rfl
    case w272 => kernel_rfl
    case y272 => (intro W hSw; go_simp) <;> with_reducible rfl
    try simp only [Act.put, p1, p2, p3]
    refine wpAnyH_ready (rs := [13]) (by kernel_rfl) (by simp) ?_
    refine (AllReadyH.cons (o := ?o273_0) ?i273_0 (fun K' hK => ?g273_0) AllReadyH.nil)
    case' i273_0 => simp only [g1, g2, g3]
    case i273_0 => rfl
    have dst := HT.out.at 26 rfl
    have dfz := HT.out.fz 31
    go_simp
    replace HT := Lib.hid (HT.out.put g2 26 (.int .i64 c))
    clear dst dfz
    refine hK.out _ _ ((HT.out.at 13 rfl)) (fun hHeld => ?_)
    clear hK K'
    try simp only [Act.put, p1, p2, p3]
    refine wpAnyH_done (by kernel_rfl) ?_ _
    go_wp2_with fail
    go_end0
    exact .inl ⟨{ s with pub := c, y := z }, _, by unfold opPub; exact (G.to_ok E1.out).trans (rfl), rfl, HT.out⟩
  · unfold Fell
    go_wp2_with fail
    exact ⟨rfl, .inr ⟨_, _, by unfold opPub; exact G.to_bad hm, hc, rfl, hT⟩⟩
set_option maxHeartbeats 1000000 in
theorem op_mixPub (g2 : Good base Q2) {P : OpP} {s : OpS} (h : Tk base g most Q2 L L2 bs B 140 s.y (P.rest s) w0 w) (hx : I64 P.x1) :
    Calls Tryz.prog 78 #[.pointer (some ⟨B, 0, none⟩)] w (Gp (opMixPub P s most L) (fun _ => .tuple #[]) (fun L' x w' => Tk base g most Q2 L' L2 bs B 140 x.y (P.rest x) w0 w') (fun L' w' => Cs base (PSq base g most) Q2 L' L2 bs w0 w')) := by
  have HT := Lib.hid h
  have HHX := Lib.hid hx
  clear h hx
  go_enter Tryz.func78, Tryz.ntmps78
  replace HT := Lib.hid (HT.out.drew g2)
  refine wp_region_held_drew (S := (fun W => W.cell? ⟨B, 5, none⟩ = some (.int .i64 P.x1) ∧ W.cell? ⟨B, 31, none⟩ = some (.int .i64 s.pub))) (by kernel_rfl) (⟨(HT.out.at 0 rfl), (HT.out.at 26 rfl)⟩) (fun hHeld => ?_)
  refine tk1 0 (oi := ?o274) (v := ?v274) ?i274 ?w274 ?y274 ?r274
  case' i274 => simp only [g1, g2, g3]
  case i274 => rfl
  case w274 => kernel_rfl
  case y274 => (intro W hSw; go_simp) <;> with_reducible rfl
  try simp only [Act.put, p1, p2, p3]
  refine tk1 1 (oi := ?o275) (v := ?v275) ?i275 ?w275 ?y275 ?r275
  case' i275 => simp only [g1, g2, g3]
  case i275 => rfl
  case w275 => kernel_rfl
  case y275 => (intro W hSw; go_simp) <;> with_reducible rfl
  try simp only [Act.put, p1, p2, p3]
  refine tk1 2 (oi := ?o276) (v := ?v276) ?i276 ?w276 ?y276 ?r276
  case' i276 => simp only [g1, g2, g3]
  case i276 => rfl
  case w276 => kernel_rfl
  case y276 => (intro W hSw; go_simp) <;> with_reducible rfl
  try simp only [Act.put, p1, p2, p3]
  refine tk1 3 (oi := ?o277) (v := ?v277) ?i277 ?w277 ?y277 ?r277
  case' i277 => simp only [g1, g2, g3]
  case i277 => rfl
  case w277 => kernel_rfl
  case y277 => (intro W hSw; go_simp) <;> with_reducible rfl
  try simp only [Act.put, p1, p2, p3]
  refine tk1 4 (oi := ?o278) (v := ?v278) ?i278 ?w278 ?y278 ?r278
  case' i278 => simp only [g1, g2, g3]
  case i278 => rfl
  case w278 => kernel_rfl
  case y278 => (intro W hSw; go_simp) <;> with_reducible rfl
  try simp only [Act.put, p1, p2, p3]
  refine tk1 5 (oi := ?o279) (v := ?v279) ?i279 ?w279 ?y279 ?r279
  case' i279 => simp only [g1, g2, g3]
  case i279 => rfl
  case w279 => kernel_rfl
  case y279 => (intro W hSw; go_simp) <;> with_reducible rfl
  try simp only [Act.put, p1, p2, p3]
  refine tk1 6 (oi := ?o280) (v := ?v280) ?i280 ?w280 ?y280 ?r280
  case' i280 => simp only [g1, g2, g3]
  case i280 => rfl
  case w280 => kernel_rfl
  case y280 => (intro W hSw; go_simp) <;> with_reducible rfl
  try simp only [Act.put, p1, p2, p3]
  refine tk1 7 (oi := ?o281) (v := ?v281) ?i281 ?w281 ?y281 ?r281
  case' i281 => simp only [g1, g2, g3]
  case i281 => rfl
  case w281 => kernel_rfl
  case y281 => (intro W hSw; obtain ⟨q5, q31⟩ := hSw; go_simp) <;> with_reducible rfl
  try simp only [Act.put, p1, p2, p3]
  refine tk1 8 (oi := ?o282) (v := ?v282) ?i282 ?w282 ?y282 ?r282
  case' i282 => simp only [g1, g2, g3]
  case i282 => rfl
  case w282 => kernel_rfl
  case y282 => (intro W hSw; go_simp) <;> with_reducible rfl
  try simp only [Act.put, p1, p2, p3]
  refine tk1 9 (oi := ?o283) (v := ?v283) ?i283 ?w283 ?y283 ?r283
  case' i283 => simp only [g1, g2, g3]
  case i283 => rfl
  case w283 => kernel_rfl
  case y283 => (intro W hSw; go_simp) <;> with_reducible rfl
  try simp only [Act.put, p1, p2, p3]
  refine tk1 10 (oi := ?o284) (v := ?v284) ?i284 ?w284 ?y284 ?r284
  case' i284 => simp only [g1, g2, g3]
  case i284 => rfl
  case w284 => kernel_rfl
  case y284 => (intro W hSw; go_simp) <;> with_reducible rfl
  try simp only [Act.put, p1, p2, p3]
  refine tk1 11 (oi := ?o285) (v := ?v285) ?i285 ?w285 ?y285 ?r285
  case' i285 => simp only [g1, g2, g3]
  case i285 => rfl
  case w285 => kernel_rfl
  case y285 => (intro W hSw; go_simp) <;> with_reducible rfl
  try simp only [Act.put, p1, p2, p3]
  refine tk1 12 (oi := ?o286) (v := ?v286) ?i286 ?w286 ?y286 ?r286
  case' i286 => simp only [g1, g2, g3]
  case i286 => rfl
  case w286 => kernel_rfl
  case y286 => (intro W hSw; obtain ⟨q5, q31⟩ := hSw; go_simp) <;> with_reducible rfl
  try simp only [Act.put, p1, p2, p3]
  refine wpAnyH_ready (rs := [13]) (by kernel_rfl) (by simp) ?_
  refine (AllReadyH.cons (o := ?o287_0) ?i287_0 (fun K' hK => ?g287_0) AllReadyH.nil)
  case' i287_0 => simp only [g1, g2, g3]
  case i287_0 => rfl
  go_simp
  go_at_call 119
  refine (tk_share g2 HT.out HHX.out).mono ?_
  rintro e' W1 (⟨z, ME1, hm, rfl, hT⟩ | ⟨c, ME1, hm, hc, rfl, hT⟩)
  · have E1 := Lib.hid hm
    have HTold := HT
    replace HT := Lib.hid hT
    clear hm hT
    go_wp2_with fail
    refine hK.out _ _ (⟨(HT.out.at 0 rfl), (HT.out.at 26 rfl)⟩) (fun hHeld => ?_)
    clear hK K'
    try simp only [Act.put, p1, p2, p3]
    refine wpAnyH_done (by kernel_rfl) ?_ _
    go_wp2_with fail
    go_end0
    exact .inl ⟨{ s with y := z }, _, by unfold opMixPub; exact (G.to_ok E1.out).trans (rfl), rfl, HT.out⟩
  · unfold Fell
    go_wp2_with fail
    exact ⟨rfl, .inr ⟨_, _, by unfold opMixPub; exact G.to_bad hm, hc, rfl, hT⟩⟩
set_option maxHeartbeats 1000000 in
theorem op_hearKeys (g2 : Good base Q2) {P : OpP} {s : OpS} (h : Tk base g most Q2 L L2 bs B 140 s.y (P.rest s) w0 w) (hx : I64 (P.m.i 6)) (hy : I64 (P.m.i 7)) :
    Calls Tryz.prog 73 #[.pointer (some ⟨B, 0, none⟩)] w (Gp (opHear P s most L) (fun _ => .tuple #[]) (fun L' x w' => Tk base g most Q2 L' L2 bs B 140 x.y (P.rest x) w0 w') (fun L' w' => Cs base (PSq base g most) Q2 L' L2 bs w0 w')) := by
  have HT := Lib.hid h
  have HHX := Lib.hid hx
  have HHY := Lib.hid hy
  clear h hx hy
  go_enter Tryz.func73, Tryz.ntmps73
  go_wp2_with fail
  replace HT := Lib.hid (HT.out.drew g2)
  refine wp_region_held_drew (S := (fun W => W.cell? ⟨B, 15, none⟩ = some (.int .i64 (P.m.i 6)))) (by kernel_rfl) ((HT.out.at 10 rfl)) (fun hHeld => ?_)
  refine tk1 0 (oi := ?o288) (v := ?v288) ?i288 ?w288 ?y288 ?r288
  case' i288 => simp only [g1, g2, g3]
  case i288 => rfl
  case w288 => kernel_rfl
  case y288 => (intro W hSw; go_simp) <;> with_reducible rfl
  try simp only [Act.put, p1, p2, p3]
  refine tk1 1 (oi := ?o289) (v := ?v289) ?i289 ?w289 ?y289 ?r289
  case' i289 => simp only [g1, g2, g3]
  case i289 => rfl
  case w289 => kernel_rfl
  case y289 => (intro W hSw; go_simp) <;> with_reducible rfl
  try simp only [Act.put, p1, p2, p3]
  refine tk1 2 (oi := ?o290) (v := ?v290) ?i290 ?w290 ?y290 ?r290
  case' i290 => simp only [g1, g2, g3]
  case i290 => rfl
  case w290 => kernel_rfl
  case y290 => (intro W hSw; go_simp) <;> with_reducible rfl
  try simp only [Act.put, p1, p2, p3]
  refine tk1 3 (oi := ?o291) (v := ?v291) ?i291 ?w291 ?y291 ?r291
  case' i291 => simp only [g1, g2, g3]
  case i291 => rfl
  case w291 => kernel_rfl
  case y291 => (intro W hSw; go_simp) <;> with_reducible rfl
  try simp only [Act.put, p1, p2, p3]
  refine tk1 4 (oi := ?o292) (v := ?v292) ?i292 ?w292 ?y292 ?r292
  case' i292 => simp only [g1, g2, g3]
  case i292 => rfl
  case w292 => kernel_rfl
  case y292 => (intro W hSw; go_simp) <;> with_reducible rfl
  try simp only [Act.put, p1, p2, p3]
  refine tk1 5 (oi := ?o293) (v := ?v293) ?i293 ?w293 ?y293 ?r293
  case' i293 => simp only [g1, g2, g3]
  case i293 => rfl
  case w293 => kernel_rfl
  case y293 => (intro W hSw; go_simp) <;> with_reducible rfl
  try simp only [Act.put, p1, p2, p3]
  refine tk1 6 (oi := ?o294) (v := ?v294) ?i294 ?w294 ?y294 ?r294
  case' i294 => simp only [g1, g2, g3]
  case i294 => rfl
  case w294 => kernel_rfl
  case y294 => (intro W hSw; go_simp) <;> with_reducible rfl
  try simp only [Act.put, p1, p2, p3]
  refine tk1 7 (oi := ?o295) (v := ?v295) ?i295 ?w295 ?y295 ?r295
  case' i295 => simp only [g1, g2, g3]
  case i295 => rfl
  case w295 => kernel_rfl
  case y295 => (intro W hSw; have q := hSw; go_simp) <;> with_reducible rfl
  try simp only [Act.put, p1, p2, p3]
  refine wpAnyH_ready (rs := [8]) (by kernel_rfl) (by simp) ?_
  refine (AllReadyH.cons (o := ?o296_0) ?i296_0 (fun K' hK => ?g296_0) AllReadyH.nil)
  case' i296_0 => simp only [g1, g2, g3]
  case i296_0 => rfl
  go_simp
  go_at_call 136
  refine (tk_hash g2 HT.out HHX.out).mono ?_
  rintro e' W1 (⟨z, ME1, hm, rfl, hT⟩ | ⟨c, ME1, hm, hc, rfl, hT⟩)
  · have E1 := Lib.hid hm
    have HTold := HT
    replace HT := Lib.hid hT
    clear hm hT
    go_wp2_with fail
    refine hK.out _ _ ((HT.out.at 10 rfl)) (fun hHeld => ?_)
    clear hK K'
    try simp only [Act.put, p1, p2, p3]
    refine wpAnyH_done (by kernel_rfl) ?_ _
    go_wp2_with fail
    replace HT := Lib.hid (HT.out.drew g2)
    refine wp_region_held_drew (S := (fun W => W.cell? ⟨B, 16, none⟩ = some (.int .i64 (P.m.i 7)))) (by kernel_rfl) ((HT.out.at 11 rfl)) (fun hHeld => ?_)
    refine tk1 0 (oi := ?o297) (v := ?v297) ?i297 ?w297 ?y297 ?r297
    case' i297 => simp only [g1, g2, g3]
    case i297 => rfl
    case w297 => kernel_rfl
    case y297 => (intro W hSw; go_simp) <;> with_reducible rfl
    try simp only [Act.put, p1, p2, p3]
    refine tk1 1 (oi := ?o298) (v := ?v298) ?i298 ?w298 ?y298 ?r298
    case' i298 => simp only [g1, g2, g3]
    case i298 => rfl
    case w298 => kernel_rfl
    case y298 => (intro W hSw; go_simp) <;> with_reducible rfl
    try simp only [Act.put, p1, p2, p3]
    refine tk1 2 (oi := ?o299) (v := ?v299) ?i299 ?w299 ?y299 ?r299
    case' i299 => simp only [g1, g2, g3]
    case i299 => rfl
    case w299 => kernel_rfl
    case y299 => (intro W hSw; go_simp) <;> with_reducible rfl
    try simp only [Act.put, p1, p2, p3]
    refine tk1 3 (oi := ?o300) (v := ?v300) ?i300 ?w300 ?y300 ?r300
    case' i300 => simp only [g1, g2, g3]
    case i300 => rfl
    case w300 => kernel_rfl
    case y300 => (intro W hSw; go_simp) <;> with_reducible rfl
    try simp only [Act.put, p1, p2, p3]
    refine tk1 4 (oi := ?o301) (v := ?v301) ?i301 ?w301 ?y301 ?r301
    case' i301 => simp only [g1, g2, g3]
    case i301 => rfl
    case w301 => kernel_rfl
    case y301 => (intro W hSw; go_simp) <;> with_reducible rfl
    try simp only [Act.put, p1, p2, p3]
    refine tk1 5 (oi := ?o302) (v := ?v302) ?i302 ?w302 ?y302 ?r302
    case' i302 => simp only [g1, g2, g3]
    case i302 => rfl
    case w302 => kernel_rfl
    case y302 => (intro W hSw; go_simp) <;> with_reducible rfl
    try simp only [Act.put, p1, p2, p3]
    refine tk1 6 (oi := ?o303) (v := ?v303) ?i303 ?w303 ?y303 ?r303
    case' i303 => simp only [g1, g2, g3]
    case i303 => rfl
    case w303 => kernel_rfl
    case y303 => (intro W hSw; go_simp) <;> with_reducible rfl
    try simp only [Act.put, p1, p2, p3]
    refine tk1 7 (oi := ?o304) (v := ?v304) ?i304 ?w304 ?y304 ?r304
    case' i304 => simp only [g1, g2, g3]
    case i304 => rfl
    case w304 => kernel_rfl
    case y304 => (intro W hSw; have q := hSw; go_simp) <;> with_reducible rfl
    try simp only [Act.put, p1, p2, p3]
    refine wpAnyH_ready (rs := [8]) (by kernel_rfl) (by simp) ?_
    refine (AllReadyH.cons (o := ?o305_0) ?i305_0 (fun K' hK => ?g305_0) AllReadyH.nil)
    case' i305_0 => simp only [g1, g2, g3]
    case i305_0 => rfl
    go_simp
    go_at_call 136
    refine (tk_hash g2 HT.out HHY.out).mono ?_
    rintro e' W1 (⟨z2, ME2, hm, rfl, hT⟩ | ⟨c, ME2, hm, hc, rfl, hT⟩)
    · have E2 := Lib.hid hm
      have HTold := HT
      replace HT := Lib.hid hT
      clear hm hT
      go_wp2_with fail
      refine hK.out _ _ ((HT.out.at 11 rfl)) (fun hHeld => ?_)
      clear hK K'
      try simp only [Act.put, p1, p2, p3]
      refine wpAnyH_done (by kernel_rfl) ?_ _
      go_wp2_with fail
      go_end0
      exact .inl ⟨{ s with y := z2 }, _, by unfold opHear; exact (G.to_ok E1.out).trans ((G.to_ok E2.out).trans (rfl)), rfl, HT.out⟩
    · unfold Fell
      go_wp2_with fail
      exact ⟨rfl, .inr ⟨_, _, by unfold opHear; exact (G.to_ok E1.out).trans (G.to_bad hm), hc, rfl, hT⟩⟩
  · unfold Fell
    go_wp2_with fail
    exact ⟨rfl, .inr ⟨_, _, by unfold opHear; exact G.to_bad hm, hc, rfl, hT⟩⟩
end
end Go.Proofs.YtgeonppckeiceaaGreatDoor
