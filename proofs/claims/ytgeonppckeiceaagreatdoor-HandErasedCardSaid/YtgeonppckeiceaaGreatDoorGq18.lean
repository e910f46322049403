/- What a talk's own steps tell, or how they fall (by tools/stage17/talk.py). -/
/- What a talk seals, opens and splits (by tools/stage17/talk.py). -/
import Derived.Test.YtgeonppckeiceaaGreatDoorGq01
import Derived.Test.YtgeonppckeiceaaGreatDoorGq17
import Derived.Deep.RegionHeld3
namespace Go.Proofs.YtgeonppckeiceaaGreatDoor
open Go.RowKit
set_option linter.unusedVariables false
set_option linter.unusedSimpArgs false
set_option maxRecDepth 20000
section
variable {base g B : Nat} {most : Int} {Q2 : (Nat → Prop) → List Tm → World → Prop} {L L' L2 : List Tm} {bs : List (Nat × Obj)} {T : TypeId} {y y' : Sy} {rest : List Value} {w0 w w' : World}
set_option maxHeartbeats 1000000 in
theorem tk_text (g2 : Good base Q2) (h : Tk base g most Q2 L L2 bs B T y rest w0 w) {S : ByteArray} (hs : S.size ≤ maxLen) :
  Calls Tryz.prog 123 #[.pointer (some ⟨B, 0, none⟩), .string S] w (Gp (putG (textT S) most L) (fun x => .int .i64 x) (fun L' x w' => Tk base g most Q2 L' L2 bs B T y rest w0 w') (fun L' w' => Cs base (PSq base g most) Q2 L' L2 bs w0 w')) := by
 obtain ⟨a, e, L1, hf⟩ : ∃ a e L1, putF L most (textT S) = (a, e, L1) := ⟨_, _, _, rfl⟩
 have HSD := Lib.hid (put_sd h.cs.sound hf)
 have hfa := h.facts
 have HF := Lib.hid hf
 have HS := Lib.hid hs
 by_cases he : e = 0
 ·subst he
  have HG : Hid (putG (textT S) most L = (.ok a, L1)) := Lib.hid (by unfold putG; rw [hf]; rfl)
  have HT := Lib.hid h
  clear h hf hfa hs
  go_enter Tryz.func123, Tryz.ntmps123
  have c0 := HT.out.c0
  have c1 := HT.out.c1
  have c2 := HT.out.c2
  have c3 := HT.out.c3
  have c4 := HT.out.c4
  go_wp2_with fail
  refine (HT.out.cs.pair.putP g2 (textT S) (text_wf HS.out) HF.out).mono ?_
  rintro e' w1 ⟨rfl, hp, hk⟩
  replace HT := Lib.hid (HT.out.step hp hk HSD.out)
  clear hp hk c0 c1 c2 c3 c4
  go_wp2_with fail
  refine (got_yes _ _).mono ?_
  rintro e' w2 ⟨rfl, rfl⟩
  go_wp2_with fail
  go_ret
  exact .inl ⟨_, _, HG.out, rfl, HT.out⟩
 ·have HG : Hid (putG (textT S) most L = (.error e, L1)) := Lib.hid (by unfold putG; rw [hf]; exact congrArg (fun r => (r, L1)) (if_neg he))
  have HE := Lib.hid he
  have HT := Lib.hid h
  clear h hf hfa he hs
  go_enter Tryz.func123, Tryz.ntmps123
  have c0 := HT.out.c0
  have c1 := HT.out.c1
  have c2 := HT.out.c2
  have c3 := HT.out.c3
  have c4 := HT.out.c4
  go_wp2_with fail
  refine (HT.out.cs.pair.putP g2 (textT S) (text_wf HS.out) HF.out).mono ?_
  rintro e' w1 ⟨rfl, hp, hk⟩
  replace HT := Lib.hid (HT.out.step hp hk HSD.out)
  clear hp hk c0 c1 c2 c3 c4
  go_wp2_with fail
  refine (got_no _ _ HE.out _).mono ?_
  rintro e' w2 ⟨rfl, rfl⟩
  unfold Fell
  go_wp2_with fail
  exact ⟨rfl, .inr ⟨_, _, HG.out, HE.out, rfl, HT.out.fall⟩⟩
set_option maxHeartbeats 2000000 in
theorem tk_hash (g2 : Good base Q2) (h : Tk base g most Q2 L L2 bs B T y rest w0 w) {x : Int} (hx : I64 x) :
  Calls Tryz.prog 136 #[.pointer (some ⟨B, 0, none⟩), .int .i64 x] w (Gp (sayG y x most L) (fun _ => .tuple #[]) (fun L' x w' => Tk base g most Q2 L' L2 bs B T x rest w0 w') (fun L' w' => Cs base (PSq base g most) Q2 L' L2 bs w0 w')) := by
 obtain ⟨z, e, L1, hf⟩ : ∃ z e L1, sayF L most y x = (z, e, L1) := ⟨_, _, _, rfl⟩
 have HSD := Lib.hid (say_sd h.cs.sound hf)
 have hfa := h.facts
 have HF := Lib.hid hf
 have HX := Lib.hid hx
 by_cases he : e = 0
 ·subst he
  have HG : Hid (sayG y x most L = (.ok z, L1)) := Lib.hid (by unfold sayG; rw [hf]; rfl)
  have HW := Lib.hid (say_wf hfa.2.1 hfa.2.2 h.wf hf)
  have HT := Lib.hid h
  clear h hf hfa hx
  go_enter Tryz.func136, Tryz.ntmps136
  replace HT := Lib.hid (HT.out.drew g2)
  have c0 := HT.out.c0
  have c1 := HT.out.c1
  have c2 := HT.out.c2
  have c3 := HT.out.c3
  have c4 := HT.out.c4
  refine wp_region_held_drew (S := fun _ => True) (by kernel_rfl) (trivial) (fun hHeld => ?_)
  refine tk 0 (h := ?_)
  refine tk 1 (h := ?_)
  refine tk 2 (h := ?_)
  refine tk 3 (h := ?_)
  refine tk 5 (h := ?_)
  refine tk 6 (h := ?_)
  refine tk 7 (h := ?_)
  refine tk 9 (h := ?_)
  refine rd2 4 8 (h := fun K' hK => ?g9_0) (h' := fun K' hK => ?g9_1)
  case g9_0 =>
   go_simp
   refine hK.out _ _ (trivial) (fun hHeld => ?_)
   clear hK K'
   try simp only [Act.put, p1, p2, p3]
   refine rd 8 (h := fun K' hK => ?_)
   go_simp
   refine hK.out _ _ (trivial) (fun hHeld => ?_)
   clear hK K'
   try simp only [Act.put, p1, p2, p3]
   refine rd 10 (h := fun K' hK => ?_)
   go_simp
   go_at_call 180
   refine (HT.out.cs.pair.sayP g2 HT.out.wf HX.out HF.out).mono ?_
   rintro e' w1 ⟨rfl, hp, hk⟩
   replace HT := Lib.hid (HT.out.step hp hk HSD.out)
   clear hp hk c0 c1 c2 c3 c4
   go_wp2_with fail
   refine hK.out _ _ (trivial) (fun hHeld => ?_)
   clear hK K'
   try simp only [Act.put, p1, p2, p3]
   refine tk 11 (h := ?_)
   refine tk 12 (h := ?_)
   refine rd 13 (h := fun K' hK => ?_)
   go_simp
   go_at_call 166
   refine (gotY_yes _ _ _ _ _).mono ?_
   rintro e' w2 ⟨rfl, hb⟩
   replace HT := Lib.hid (HT.out.below g2 hb)
   clear hb
   have d0 := HT.out.c0
   have d1 := HT.out.c1
   have d2 := HT.out.c2
   have d3 := HT.out.c3
   have d4 := HT.out.c4
   have f1 := HT.out.fz 1
   have f2 := HT.out.fz 2
   have f3 := HT.out.fz 3
   have f4 := HT.out.fz 4
   go_wp2_with fail
   refine hK.out _ _ (trivial) (fun hHeld => ?_)
   clear hK K'
   try simp only [Act.put, p1, p2, p3]
   refine tk 14 (h := ?_)
   refine tk 15 (h := ?_)
   refine rd 16 (h := fun K' hK => ?_)
   go_simp
   refine hK.out _ _ (trivial) (fun hHeld => ?_)
   clear hK K'
   try simp only [Act.put, p1, p2, p3]
   refine wpAnyH_done (by kernel_rfl) ?_ _
   go_wp2_with fail
   go_end0
   exact .inl ⟨_, _, HG.out, rfl, HT.out.put4 g2 HW.out⟩
  case g9_1 =>
   go_simp
   refine hK.out _ _ (trivial) (fun hHeld => ?_)
   clear hK K'
   try simp only [Act.put, p1, p2, p3]
   refine rd 4 (h := fun K' hK => ?_)
   go_simp
   refine hK.out _ _ (trivial) (fun hHeld => ?_)
   clear hK K'
   try simp only [Act.put, p1, p2, p3]
   refine rd 10 (h := fun K' hK => ?_)
   go_simp
   go_at_call 180
   refine (HT.out.cs.pair.sayP g2 HT.out.wf HX.out HF.out).mono ?_
   rintro e' w1 ⟨rfl, hp, hk⟩
   replace HT := Lib.hid (HT.out.step hp hk HSD.out)
   clear hp hk c0 c1 c2 c3 c4
   go_wp2_with fail
   refine hK.out _ _ (trivial) (fun hHeld => ?_)
   clear hK K'
   try simp only [Act.put, p1, p2, p3]
   refine tk 11 (h := ?_)
   refine tk 12 (h := ?_)
   refine rd 13 (h := fun K' hK => ?_)
   go_simp
   go_at_call 166
   refine (gotY_yes _ _ _ _ _).mono ?_
   rintro e' w2 ⟨rfl, hb⟩
   replace HT := Lib.hid (HT.out.below g2 hb)
   clear hb
   have d0 := HT.out.c0
   have d1 := HT.out.c1
   have d2 := HT.out.c2
   have d3 := HT.out.c3
   have d4 := HT.out.c4
   have f1 := HT.out.fz 1
   have f2 := HT.out.fz 2
   have f3 := HT.out.fz 3
   have f4 := HT.out.fz 4
   go_wp2_with fail
   refine hK.out _ _ (trivial) (fun hHeld => ?_)
   clear hK K'
   try simp only [Act.put, p1, p2, p3]
   refine tk 14 (h := ?_)
   refine tk 15 (h := ?_)
   refine rd 16 (h := fun K' hK => ?_)
   go_simp
   refine hK.out _ _ (trivial) (fun hHeld => ?_)
   clear hK K'
   try simp only [Act.put, p1, p2, p3]
   refine wpAnyH_done (by kernel_rfl) ?_ _
   go_wp2_with fail
   go_end0
   exact .inl ⟨_, _, HG.out, rfl, HT.out.put4 g2 HW.out⟩
 ·have HG : Hid (sayG y x most L = (.error e, L1)) := Lib.hid (by unfold sayG; rw [hf]; exact congrArg (fun r => (r, L1)) (if_neg he))
  have HE := Lib.hid he
  have HT := Lib.hid h
  clear h hf hfa he hx
  go_enter Tryz.func136, Tryz.ntmps136
  replace HT := Lib.hid (HT.out.drew g2)
  have c0 := HT.out.c0
  have c1 := HT.out.c1
  have c2 := HT.out.c2
  have c3 := HT.out.c3
  have c4 := HT.out.c4
  refine wp_region_held_drew (S := fun _ => True) (by kernel_rfl) (trivial) (fun hHeld => ?_)
  refine tk 0 (h := ?_)
  refine tk 1 (h := ?_)
  refine tk 2 (h := ?_)
  refine tk 3 (h := ?_)
  refine tk 5 (h := ?_)
  refine tk 6 (h := ?_)
  refine tk 7 (h := ?_)
  refine tk 9 (h := ?_)
  refine rd2 4 8 (h := fun K' hK => ?g34_0) (h' := fun K' hK => ?g34_1)
  case g34_0 =>
   go_simp
   refine hK.out _ _ (trivial) (fun hHeld => ?_)
   clear hK K'
   try simp only [Act.put, p1, p2, p3]
   refine rd 8 (h := fun K' hK => ?_)
   go_simp
   refine hK.out _ _ (trivial) (fun hHeld => ?_)
   clear hK K'
   try simp only [Act.put, p1, p2, p3]
   refine rd 10 (h := fun K' hK => ?_)
   go_simp
   go_at_call 180
   refine (HT.out.cs.pair.sayP g2 HT.out.wf HX.out HF.out).mono ?_
   rintro e' w1 ⟨rfl, hp, hk⟩
   replace HT := Lib.hid (HT.out.step hp hk HSD.out)
   clear hp hk c0 c1 c2 c3 c4
   go_wp2_with fail
   refine hK.out _ _ (trivial) (fun hHeld => ?_)
   clear hK K'
   try simp only [Act.put, p1, p2, p3]
   refine tk 11 (h := ?_)
   refine tk 12 (h := ?_)
   refine rd 13 (h := fun K' hK => ?_)
   go_simp
   go_at_call 166
   refine (gotY_no _ _ _ _ _ HE.out _).mono ?_
   rintro e' w2 ⟨rfl, hb⟩
   replace HT := Lib.hid (HT.out.below g2 hb)
   clear hb
   unfold Fell
   go_wp2_with fail
   exact ⟨rfl, .inr ⟨_, _, HG.out, HE.out, rfl, HT.out.fall⟩⟩
  case g34_1 =>
   go_simp
   refine hK.out _ _ (trivial) (fun hHeld => ?_)
   clear hK K'
   try simp only [Act.put, p1, p2, p3]
   refine rd 4 (h := fun K' hK => ?_)
   go_simp
   refine hK.out _ _ (trivial) (fun hHeld => ?_)
   clear hK K'
   try simp only [Act.put, p1, p2, p3]
   refine rd 10 (h := fun K' hK => ?_)
   go_simp
   go_at_call 180
   refine (HT.out.cs.pair.sayP g2 HT.out.wf HX.out HF.out).mono ?_
   rintro e' w1 ⟨rfl, hp, hk⟩
   replace HT := Lib.hid (HT.out.step hp hk HSD.out)
   clear hp hk c0 c1 c2 c3 c4
   go_wp2_with fail
   refine hK.out _ _ (trivial) (fun hHeld => ?_)
   clear hK K'
   try simp only [Act.put, p1, p2, p3]
   refine tk 11 (h := ?_)
   refine tk 12 (h := ?_)
   refine rd 13 (h := fun K' hK => ?_)
   go_simp
   go_at_call 166
   refine (gotY_no _ _ _ _ _ HE.out _).mono ?_
   rintro e' w2 ⟨rfl, hb⟩
   replace HT := Lib.hid (HT.out.below g2 hb)
   clear hb
   unfold Fell
   go_wp2_with fail
   exact ⟨rfl, .inr ⟨_, _, HG.out, HE.out, rfl, HT.out.fall⟩⟩
set_option maxHeartbeats 2000000 in
theorem tk_mix (g2 : Good base Q2) (h : Tk base g most Q2 L L2 bs B T y rest w0 w) {x : Int} (hx : I64 x) :
  Calls Tryz.prog 122 #[.pointer (some ⟨B, 0, none⟩), .int .i64 x] w (Gp (turnG y x most L) (fun _ => .tuple #[]) (fun L' x w' => Tk base g most Q2 L' L2 bs B T x rest w0 w') (fun L' w' => Cs base (PSq base g most) Q2 L' L2 bs w0 w')) := by
 obtain ⟨z, e, L1, hf⟩ : ∃ z e L1, turnF L most y x = (z, e, L1) := ⟨_, _, _, rfl⟩
 have HSD := Lib.hid (turn_sd h.cs.sound hf)
 have hfa := h.facts
 have HF := Lib.hid hf
 have HX := Lib.hid hx
 by_cases he : e = 0
 ·subst he
  have HG : Hid (turnG y x most L = (.ok z, L1)) := Lib.hid (by unfold turnG; rw [hf]; rfl)
  have HW := Lib.hid (turn_wf hfa.2.1 hfa.2.2 hfa.1 h.wf hf)
  have HT := Lib.hid h
  clear h hf hfa hx
  go_enter Tryz.func122, Tryz.ntmps122
  replace HT := Lib.hid (HT.out.drew g2)
  have c0 := HT.out.c0
  have c1 := HT.out.c1
  have c2 := HT.out.c2
  have c3 := HT.out.c3
  have c4 := HT.out.c4
  refine wp_region_held_drew (S := fun _ => True) (by kernel_rfl) (trivial) (fun hHeld => ?_)
  refine tk 0 (h := ?_)
  refine tk 1 (h := ?_)
  refine tk 2 (h := ?_)
  refine tk 3 (h := ?_)
  refine tk 5 (h := ?_)
  refine tk 6 (h := ?_)
  refine tk 7 (h := ?_)
  refine tk 9 (h := ?_)
  refine rd2 4 8 (h := fun K' hK => ?g53_0) (h' := fun K' hK => ?g53_1)
  case g53_0 =>
   go_simp
   refine hK.out _ _ (trivial) (fun hHeld => ?_)
   clear hK K'
   try simp only [Act.put, p1, p2, p3]
   refine rd 8 (h := fun K' hK => ?_)
   go_simp
   refine hK.out _ _ (trivial) (fun hHeld => ?_)
   clear hK K'
   try simp only [Act.put, p1, p2, p3]
   refine rd 10 (h := fun K' hK => ?_)
   go_simp
   go_at_call 173
   refine (HT.out.cs.pair.turnP g2 HT.out.wf HX.out HF.out).mono ?_
   rintro e' w1 ⟨rfl, hp, hk⟩
   replace HT := Lib.hid (HT.out.step hp hk HSD.out)
   clear hp hk c0 c1 c2 c3 c4
   go_wp2_with fail
   refine hK.out _ _ (trivial) (fun hHeld => ?_)
   clear hK K'
   try simp only [Act.put, p1, p2, p3]
   refine tk 11 (h := ?_)
   refine tk 12 (h := ?_)
   refine rd 13 (h := fun K' hK => ?_)
   go_simp
   go_at_call 166
   refine (gotY_yes _ _ _ _ _).mono ?_
   rintro e' w2 ⟨rfl, hb⟩
   replace HT := Lib.hid (HT.out.below g2 hb)
   clear hb
   have d0 := HT.out.c0
   have d1 := HT.out.c1
   have d2 := HT.out.c2
   have d3 := HT.out.c3
   have d4 := HT.out.c4
   have f1 := HT.out.fz 1
   have f2 := HT.out.fz 2
   have f3 := HT.out.fz 3
   have f4 := HT.out.fz 4
   go_wp2_with fail
   refine hK.out _ _ (trivial) (fun hHeld => ?_)
   clear hK K'
   try simp only [Act.put, p1, p2, p3]
   refine tk 14 (h := ?_)
   refine tk 15 (h := ?_)
   refine rd 16 (h := fun K' hK => ?_)
   go_simp
   refine hK.out _ _ (trivial) (fun hHeld => ?_)
   clear hK K'
   try simp only [Act.put, p1, p2, p3]
   refine wpAnyH_done (by kernel_rfl) ?_ _
   go_wp2_with fail
   go_end0
   exact .inl ⟨_, _, HG.out, rfl, HT.out.put4 g2 HW.out⟩
  case g53_1 =>
   go_simp
   refine hK.out _ _ (trivial) (fun hHeld => ?_)
   clear hK K'
   try simp only [Act.put, p1, p2, p3]
   refine rd 4 (h := fun K' hK => ?_)
   go_simp
   refine hK.out _ _ (trivial) (fun hHeld => ?_)
   clear hK K'
   try simp only [Act.put, p1, p2, p3]
   refine rd 10 (h := fun K' hK => ?_)
   go_simp
   go_at_call 173
   refine (HT.out.cs.pair.turnP g2 HT.out.wf HX.out HF.out).mono ?_
   rintro e' w1 ⟨rfl, hp, hk⟩
   replace HT := Lib.hid (HT.out.step hp hk HSD.out)
   clear hp hk c0 c1 c2 c3 c4
   go_wp2_with fail
   refine hK.out _ _ (trivial) (fun hHeld => ?_)
   clear hK K'
   try simp only [Act.put, p1, p2, p3]
   refine tk 11 (h := ?_)
   refine tk 12 (h := ?_)
   refine rd 13 (h := fun K' hK => ?_)
   go_simp
   go_at_call 166
   refine (gotY_yes _ _ _ _ _).mono ?_
   rintro e' w2 ⟨rfl, hb⟩
   replace HT := Lib.hid (HT.out.below g2 hb)
   clear hb
   have d0 := HT.out.c0
   have d1 := HT.out.c1
   have d2 := HT.out.c2
   have d3 := HT.out.c3
   have d4 := HT.out.c4
   have f1 := HT.out.fz 1
   have f2 := HT.out.fz 2
   have f3 := HT.out.fz 3
   have f4 := HT.out.fz 4
   go_wp2_with fail
   refine hK.out _ _ (trivial) (fun hHeld => ?_)
   clear hK K'
   try simp only [Act.put, p1, p2, p3]
   refine tk 14 (h := ?_)
   refine tk 15 (h := ?_)
   refine rd 16 (h := fun K' hK => ?_)
   go_simp
   refine hK.out _ _ (trivial) (fun hHeld => ?_)
   clear hK K'
   try simp only [Act.put, p1, p2, p3]
   refine wpAnyH_done (by kernel_rfl) ?_ _
   go_wp2_with fail
   go_end0
   exact .inl ⟨_, _, HG.out, rfl, HT.out.put4 g2 HW.out⟩
 ·have HG : Hid (turnG y x most L = (.error e, L1)) := Lib.hid (by unfold turnG; rw [hf]; exact congrArg (fun r => (r, L1)) (if_neg he))
  have HE := Lib.hid he
  have HT := Lib.hid h
  clear h hf hfa he hx
  go_enter Tryz.func122, Tryz.ntmps122
  replace HT := Lib.hid (HT.out.drew g2)
  have c0 := HT.out.c0
  have c1 := HT.out.c1
  have c2 := HT.out.c2
  have c3 := HT.out.c3
  have c4 := HT.out.c4
  refine wp_region_held_drew (S := fun _ => True) (by kernel_rfl) (trivial) (fun hHeld => ?_)
  refine tk 0 (h := ?_)
  refine tk 1 (h := ?_)
  refine tk 2 (h := ?_)
  refine tk 3 (h := ?_)
  refine tk 5 (h := ?_)
  refine tk 6 (h := ?_)
  refine tk 7 (h := ?_)
  refine tk 9 (h := ?_)
  refine rd2 4 8 (h := fun K' hK => ?g78_0) (h' := fun K' hK => ?g78_1)
  case g78_0 =>
   go_simp
   refine hK.out _ _ (trivial) (fun hHeld => ?_)
   clear hK K'
   try simp only [Act.put, p1, p2, p3]
   refine rd 8 (h := fun K' hK => ?_)
   go_simp
   refine hK.out _ _ (trivial) (fun hHeld => ?_)
   clear hK K'
   try simp only [Act.put, p1, p2, p3]
   refine rd 10 (h := fun K' hK => ?_)
   go_simp
   go_at_call 173
   refine (HT.out.cs.pair.turnP g2 HT.out.wf HX.out HF.out).mono ?_
   rintro e' w1 ⟨rfl, hp, hk⟩
   replace HT := Lib.hid (HT.out.step hp hk HSD.out)
   clear hp hk c0 c1 c2 c3 c4
   go_wp2_with fail
   refine hK.out _ _ (trivial) (fun hHeld => ?_)
   clear hK K'
   try simp only [Act.put, p1, p2, p3]
   refine tk 11 (h := ?_)
   refine tk 12 (h := ?_)
   refine rd 13 (h := fun K' hK => ?_)
   go_simp
   go_at_call 166
   refine (gotY_no _ _ _ _ _ HE.out _).mono ?_
   rintro e' w2 ⟨rfl, hb⟩
   replace HT := Lib.hid (HT.out.below g2 hb)
   clear hb
   unfold Fell
   go_wp2_with fail
   exact ⟨rfl, .inr ⟨_, _, HG.out, HE.out, rfl, HT.out.fall⟩⟩
  case g78_1 =>
   go_simp
   refine hK.out _ _ (trivial) (fun hHeld => ?_)
   clear hK K'
   try simp only [Act.put, p1, p2, p3]
   refine rd 4 (h := fun K' hK => ?_)
   go_simp
   refine hK.out _ _ (trivial) (fun hHeld => ?_)
   clear hK K'
   try simp only [Act.put, p1, p2, p3]
   refine rd 10 (h := fun K' hK => ?_)
   go_simp
   go_at_call 173
   refine (HT.out.cs.pair.turnP g2 HT.out.wf HX.out HF.out).mono ?_
   rintro e' w1 ⟨rfl, hp, hk⟩
   replace HT := Lib.hid (HT.out.step hp hk HSD.out)
   clear hp hk c0 c1 c2 c3 c4
   go_wp2_with fail
   refine hK.out _ _ (trivial) (fun hHeld => ?_)
   clear hK K'
   try simp only [Act.put, p1, p2, p3]
   refine tk 11 (h := ?_)
   refine tk 12 (h := ?_)
   refine rd 13 (h := fun K' hK => ?_)
   go_simp
   go_at_call 166
   refine (gotY_no _ _ _ _ _ HE.out _).mono ?_
   rintro e' w2 ⟨rfl, hb⟩
   replace HT := Lib.hid (HT.out.below g2 hb)
   clear hb
   unfold Fell
   go_wp2_with fail
   exact ⟨rfl, .inr ⟨_, _, HG.out, HE.out, rfl, HT.out.fall⟩⟩
end
section
variable {base g B : Nat} {most : Int} {Q2 : (Nat → Prop) → List Tm → World → Prop} {L L' L2 : List Tm} {bs : List (Nat × Obj)} {T : TypeId} {y y' : Sy} {rest : List Value} {w0 w w' : World}
set_option maxHeartbeats 600000 in
theorem tk_seal (g2 : Good base Q2) (h : Tk base g most Q2 L L2 bs B T y rest w0 w) {x : Int} (hx : I64 x) :
  Calls Tryz.prog 121 #[.pointer (some ⟨B, 0, none⟩), .int .i64 x] w (Gp (sealG y x most L) (fun r => .int .i64 r.2) (fun L' x w' => Tk base g most Q2 L' L2 bs B T x.1 rest w0 w') (fun L' w' => Cs base (PSq base g most) Q2 L' L2 bs w0 w')) := by
 obtain ⟨z, c, e, L1, hf⟩ : ∃ z c e L1, sealF L most y x = (z, c, e, L1) := ⟨_, _, _, _, rfl⟩
 have HSD := Lib.hid (seal_sd h.cs.sound hf)
 have hfa := h.facts
 have HF := Lib.hid hf
 have HX := Lib.hid hx
 by_cases he : e = 0
 ·subst he
  have HG : Hid (sealG y x most L = (.ok (z, c), L1)) := Lib.hid (by unfold sealG; rw [hf]; rfl)
  have HW := Lib.hid ((sealY_wf hfa.2.1 hfa.2.2 hfa.1 h.wf hf).1)
  have HT := Lib.hid h
  clear h hf hfa hx
  go_enter Tryz.func121, Tryz.ntmps121
  replace HT := Lib.hid (HT.out.drew g2)
  go_wp2_with fail
  refine wp_region_held_drew (S := (fun W => W.cell? ⟨B, 0, none⟩ = some (.pointer (some ⟨g, 0, none⟩)) ∧ W.cell? ⟨B, 1, none⟩ = some (.int .i64 y.CK) ∧ W.cell? ⟨B, 2, none⟩ = some (.int .i64 y.K) ∧ W.cell? ⟨B, 3, none⟩ = some (.int .i64 y.H) ∧ W.cell? ⟨B, 4, none⟩ = some (.int .u64 y.N))) (by kernel_rfl) (⟨HT.out.c0, HT.out.c1, HT.out.c2, HT.out.c3, HT.out.c4⟩) (fun hHeld => ?_)
  refine tk 0 (h := ?_)
  refine tk 1 (h := ?_)
  refine tk 2 (h := ?_)
  refine tk 3 (hy := fun W hSw => by ((obtain ⟨q0, q1, q2, q3, q4⟩ := hSw; go_simp) <;> with_reducible rfl)) (h := ?_)
  refine tk 4 (h := ?_)
  refine tk 5 (h := ?_)
  refine tk 6 (h := ?_)
  refine tk 7 (hy := fun W hSw => by ((obtain ⟨q0, q1, q2, q3, q4⟩ := hSw; go_simp) <;> with_reducible rfl)) (h := ?_)
  refine tk 8 (h := ?_)
  refine rd2 9 14 (h := fun K' hK => ?g98_0) (h' := fun K' hK => ?g98_1)
  case g98_0 =>
   go_simp
   go_at_call 172
   refine (HT.out.cs.pair.ysealP g2 HT.out.wf HX.out HF.out).mono ?_
   rintro e' w1 ⟨rfl, hp, hk⟩
   replace HT := Lib.hid (HT.out.step hp hk HSD.out)
   clear hp hk
   simp only [Sy.v]
   go_wp2_with fail
   refine hK.out _ _ (⟨HT.out.c0, HT.out.c1, HT.out.c2, HT.out.c3, HT.out.c4⟩) (fun hHeld => ?_)
   clear hK K'
   try simp only [Act.put, p1, p2, p3]
   refine tk 10 (h := ?_)
   refine tk 11 (h := ?_)
   refine tk 12 (h := ?_)
   refine tk 13 (h := ?_)
   refine rd 14 (h := fun K' hK => ?_)
   have HT0 := HT
   go_simp
   obtain ⟨hbx, hbn⟩ := HT.out.box g2 #[.int .i64 0, .int .i64 0, .int .i64 0, .int .u64 0] 45 (b := w1.heap.size) (by first | rfl | simp)
   replace HT := Lib.hid hbx
   have HN := Lib.hid hbn
   clear hbx hbn
   refine hK.out _ _ (⟨HT.out.c0, HT.out.c1, HT.out.c2, HT.out.c3, HT.out.c4⟩) (fun hHeld => ?_)
   clear hK K'
   try simp only [Act.put, p1, p2, p3]
   refine rd 15 (h := fun K' hK => ?_)
   go_simp
   obtain ⟨hbx, hbn⟩ := HT0.out.box g2 #[.int .i64 z.CK, .int .i64 z.K, .int .i64 z.H, .int .u64 z.N] 45 (b := w1.heap.size) rfl
   replace HT := Lib.hid hbx.unbox0
   have HR := Lib.hid (hbx.cs.kept _ _ (List.mem_cons_of_mem _ List.mem_cons_self))
   clear hbx hbn HT0
   refine hK.out _ _ (⟨HT.out.c0, HT.out.c1, HT.out.c2, HT.out.c3, HT.out.c4⟩) (fun hHeld => ?_)
   clear hK K'
   try simp only [Act.put, p1, p2, p3]
   refine tk 16 (h := ?_)
   refine tk 17 (h := ?_)
   refine wpAnyH_done (by kernel_rfl) ?_ _
   generalize hWx : World.alloc _ _ = Wx at HT HR ⊢
   clear hWx
   have r0 := cell_of_row Wx _ 0 _ _ _ HR.out
   have r1 := cell_of_row Wx _ 1 _ _ _ HR.out
   have r2 := cell_of_row Wx _ 2 _ _ _ HR.out
   have r3 := cell_of_row Wx _ 3 _ _ _ HR.out
   simp at r0 r1 r2 r3
   have d0 := HT.out.c0
   have d1 := HT.out.c1
   have d2 := HT.out.c2
   have d3 := HT.out.c3
   have d4 := HT.out.c4
   have f1 := HT.out.fz 1
   have f2 := HT.out.fz 2
   have f3 := HT.out.fz 3
   have f4 := HT.out.fz 4
   go_wp2_with fail
   refine (must_yes _).mono ?_
   rintro e' w2 ⟨rfl, rfl⟩
   go_wp2_with fail
   go_ret
   exact .inl ⟨_, _, HG.out, rfl, HT.out.put4 g2 HW.out⟩
  case g98_1 =>
   go_simp
   obtain ⟨hbx, hbn⟩ := HT.out.box g2 #[.int .i64 0, .int .i64 0, .int .i64 0, .int .u64 0] 45 (b := w.heap.size) (by first | rfl | simp)
   replace HT := Lib.hid hbx
   have HN := Lib.hid hbn
   clear hbx hbn
   refine hK.out _ _ (⟨HT.out.c0, HT.out.c1, HT.out.c2, HT.out.c3, HT.out.c4⟩) (fun hHeld => ?_)
   clear hK K'
   try simp only [Act.put, p1, p2, p3]
   refine rd 9 (h := fun K' hK => ?_)
   go_simp
   go_at_call 172
   refine (HT.out.cs.pair.ysealP g2 HT.out.wf HX.out HF.out).mono ?_
   rintro e' w1 ⟨rfl, hp, hk⟩
   replace HT := Lib.hid (HT.out.step hp hk HSD.out)
   clear hp hk
   simp only [Sy.v]
   go_wp2_with fail
   refine hK.out _ _ (⟨HT.out.c0, HT.out.c1, HT.out.c2, HT.out.c3, HT.out.c4⟩) (fun hHeld => ?_)
   clear hK K'
   try simp only [Act.put, p1, p2, p3]
   refine tk 10 (h := ?_)
   refine tk 11 (h := ?_)
   refine tk 12 (h := ?_)
   refine tk 13 (h := ?_)
   refine rd 15 (h := fun K' hK => ?_)
   obtain ⟨b0, bf0⟩ := HT.out.boxc (List.mem_cons_self) 0 rfl
   obtain ⟨b1, bf1⟩ := HT.out.boxc (List.mem_cons_self) 1 rfl
   obtain ⟨b2, bf2⟩ := HT.out.boxc (List.mem_cons_self) 2 rfl
   obtain ⟨b3, bf3⟩ := HT.out.boxc (List.mem_cons_self) 3 rfl
   go_simp
   obtain ⟨hbx, hbr⟩ := HT.out.unbox4 g2 HN.out (.int .i64 z.CK) (.int .i64 z.K) (.int .i64 z.H) (.int .u64 z.N)
   replace HT := Lib.hid hbx
   have HR := Lib.hid hbr
   clear hbx hbr b0 b1 b2 b3 bf0 bf1 bf2 bf3
   refine hK.out _ _ (⟨HT.out.c0, HT.out.c1, HT.out.c2, HT.out.c3, HT.out.c4⟩) (fun hHeld => ?_)
   clear hK K'
   try simp only [Act.put, p1, p2, p3]
   refine tk 16 (h := ?_)
   refine tk 17 (h := ?_)
   refine wpAnyH_done (by kernel_rfl) ?_ _
   generalize hWx : World.setCell _ _ _ = Wx at HT HR ⊢
   clear hWx
   have r0 := cell_of_row Wx _ 0 _ _ _ HR.out
   have r1 := cell_of_row Wx _ 1 _ _ _ HR.out
   have r2 := cell_of_row Wx _ 2 _ _ _ HR.out
   have r3 := cell_of_row Wx _ 3 _ _ _ HR.out
   simp at r0 r1 r2 r3
   have d0 := HT.out.c0
   have d1 := HT.out.c1
   have d2 := HT.out.c2
   have d3 := HT.out.c3
   have d4 := HT.out.c4
   have f1 := HT.out.fz 1
   have f2 := HT.out.fz 2
   have f3 := HT.out.fz 3
   have f4 := HT.out.fz 4
   go_wp2_with fail
   refine (must_yes _).mono ?_
   rintro e' w2 ⟨rfl, rfl⟩
   go_wp2_with fail
   go_ret
   exact .inl ⟨_, _, HG.out, rfl, HT.out.put4 g2 HW.out⟩
 ·have HG : Hid (sealG y x most L = (.error e, L1)) := Lib.hid (by unfold sealG; rw [hf]; exact congrArg (fun r => (r, L1)) (if_neg he))
  have HE := Lib.hid he
  have HT := Lib.hid h
  clear h hf hfa he hx
  go_enter Tryz.func121, Tryz.ntmps121
  replace HT := Lib.hid (HT.out.drew g2)
  go_wp2_with fail
  refine wp_region_held_drew (S := (fun W => W.cell? ⟨B, 0, none⟩ = some (.pointer (some ⟨g, 0, none⟩)) ∧ W.cell? ⟨B, 1, none⟩ = some (.int .i64 y.CK) ∧ W.cell? ⟨B, 2, none⟩ = some (.int .i64 y.K) ∧ W.cell? ⟨B, 3, none⟩ = some (.int .i64 y.H) ∧ W.cell? ⟨B, 4, none⟩ = some (.int .u64 y.N))) (by kernel_rfl) (⟨HT.out.c0, HT.out.c1, HT.out.c2, HT.out.c3, HT.out.c4⟩) (fun hHeld => ?_)
  refine tk 0 (h := ?_)
  refine tk 1 (h := ?_)
  refine tk 2 (h := ?_)
  refine tk 3 (hy := fun W hSw => by ((obtain ⟨q0, q1, q2, q3, q4⟩ := hSw; go_simp) <;> with_reducible rfl)) (h := ?_)
  refine tk 4 (h := ?_)
  refine tk 5 (h := ?_)
  refine tk 6 (h := ?_)
  refine tk 7 (hy := fun W hSw => by ((obtain ⟨q0, q1, q2, q3, q4⟩ := hSw; go_simp) <;> with_reducible rfl)) (h := ?_)
  refine tk 8 (h := ?_)
  refine rd2 9 14 (h := fun K' hK => ?g124_0) (h' := fun K' hK => ?g124_1)
  case g124_0 =>
   go_simp
   go_at_call 172
   refine (HT.out.cs.pair.ysealP g2 HT.out.wf HX.out HF.out).mono ?_
   rintro e' w1 ⟨rfl, hp, hk⟩
   replace HT := Lib.hid (HT.out.step hp hk HSD.out)
   clear hp hk
   simp only [Sy.v]
   go_wp2_with fail
   refine hK.out _ _ (⟨HT.out.c0, HT.out.c1, HT.out.c2, HT.out.c3, HT.out.c4⟩) (fun hHeld => ?_)
   clear hK K'
   try simp only [Act.put, p1, p2, p3]
   refine tk 10 (h := ?_)
   refine tk 11 (h := ?_)
   refine tk 12 (h := ?_)
   refine tk 13 (h := ?_)
   refine rd 14 (h := fun K' hK => ?_)
   have HT0 := HT
   go_simp
   obtain ⟨hbx, hbn⟩ := HT.out.box g2 #[.int .i64 0, .int .i64 0, .int .i64 0, .int .u64 0] 45 (b := w1.heap.size) (by first | rfl | simp)
   replace HT := Lib.hid hbx
   have HN := Lib.hid hbn
   clear hbx hbn
   refine hK.out _ _ (⟨HT.out.c0, HT.out.c1, HT.out.c2, HT.out.c3, HT.out.c4⟩) (fun hHeld => ?_)
   clear hK K'
   try simp only [Act.put, p1, p2, p3]
   refine rd 15 (h := fun K' hK => ?_)
   go_simp
   obtain ⟨hbx, hbn⟩ := HT0.out.box g2 #[.int .i64 z.CK, .int .i64 z.K, .int .i64 z.H, .int .u64 z.N] 45 (b := w1.heap.size) rfl
   replace HT := Lib.hid hbx.unbox0
   have HR := Lib.hid (hbx.cs.kept _ _ (List.mem_cons_of_mem _ List.mem_cons_self))
   clear hbx hbn HT0
   refine hK.out _ _ (⟨HT.out.c0, HT.out.c1, HT.out.c2, HT.out.c3, HT.out.c4⟩) (fun hHeld => ?_)
   clear hK K'
   try simp only [Act.put, p1, p2, p3]
   refine tk 16 (h := ?_)
   refine tk 17 (h := ?_)
   refine wpAnyH_done (by kernel_rfl) ?_ _
   go_wp2_with fail
   refine (must_no _ HE.out _).mono ?_
   rintro e' w2 ⟨rfl, rfl⟩
   unfold Fell
   go_wp2_with fail
   exact ⟨rfl, .inr ⟨_, _, HG.out, HE.out, rfl, HT.out.fall⟩⟩
  case g124_1 =>
   go_simp
   obtain ⟨hbx, hbn⟩ := HT.out.box g2 #[.int .i64 0, .int .i64 0, .int .i64 0, .int .u64 0] 45 (b := w.heap.size) (by first | rfl | simp)
   replace HT := Lib.hid hbx
   have HN := Lib.hid hbn
   clear hbx hbn
   refine hK.out _ _ (⟨HT.out.c0, HT.out.c1, HT.out.c2, HT.out.c3, HT.out.c4⟩) (fun hHeld => ?_)
   clear hK K'
   try simp only [Act.put, p1, p2, p3]
   refine rd 9 (h := fun K' hK => ?_)
   go_simp
   go_at_call 172
   refine (HT.out.cs.pair.ysealP g2 HT.out.wf HX.out HF.out).mono ?_
   rintro e' w1 ⟨rfl, hp, hk⟩
   replace HT := Lib.hid (HT.out.step hp hk HSD.out)
   clear hp hk
   simp only [Sy.v]
   go_wp2_with fail
   refine hK.out _ _ (⟨HT.out.c0, HT.out.c1, HT.out.c2, HT.out.c3, HT.out.c4⟩) (fun hHeld => ?_)
   clear hK K'
   try simp only [Act.put, p1, p2, p3]
   refine tk 10 (h := ?_)
   refine tk 11 (h := ?_)
   refine tk 12 (h := ?_)
   refine tk 13 (h := ?_)
   refine rd 15 (h := fun K' hK => ?_)
   obtain ⟨b0, bf0⟩ := HT.out.boxc (List.mem_cons_self) 0 rfl
   obtain ⟨b1, bf1⟩ := HT.out.boxc (List.mem_cons_self) 1 rfl
   obtain ⟨b2, bf2⟩ := HT.out.boxc (List.mem_cons_self) 2 rfl
   obtain ⟨b3, bf3⟩ := HT.out.boxc (List.mem_cons_self) 3 rfl
   go_simp
   obtain ⟨hbx, hbr⟩ := HT.out.unbox4 g2 HN.out (.int .i64 z.CK) (.int .i64 z.K) (.int .i64 z.H) (.int .u64 z.N)
   replace HT := Lib.hid hbx
   have HR := Lib.hid hbr
   clear hbx hbr b0 b1 b2 b3 bf0 bf1 bf2 bf3
   refine hK.out _ _ (⟨HT.out.c0, HT.out.c1, HT.out.c2, HT.out.c3, HT.out.c4⟩) (fun hHeld => ?_)
   clear hK K'
   try simp only [Act.put, p1, p2, p3]
   refine tk 16 (h := ?_)
   refine tk 17 (h := ?_)
   refine wpAnyH_done (by kernel_rfl) ?_ _
   go_wp2_with fail
   refine (must_no _ HE.out _).mono ?_
   rintro e' w2 ⟨rfl, rfl⟩
   unfold Fell
   go_wp2_with fail
   exact ⟨rfl, .inr ⟨_, _, HG.out, HE.out, rfl, HT.out.fall⟩⟩
set_option maxHeartbeats 600000 in
theorem tk_open (g2 : Good base Q2) (h : Tk base g most Q2 L L2 bs B T y rest w0 w) {x : Int} (hx : I64 x) :
  Calls Tryz.prog 138 #[.pointer (some ⟨B, 0, none⟩), .int .i64 x] w (Gp (unsealG y x most L) (fun r => .int .i64 r.2) (fun L' x w' => Tk base g most Q2 L' L2 bs B T x.1 rest w0 w') (fun L' w' => Cs base (PSq base g most) Q2 L' L2 bs w0 w')) := by
 obtain ⟨z, c, e, L1, hf⟩ : ∃ z c e L1, unsealF L most y x = (z, c, e, L1) := ⟨_, _, _, _, rfl⟩
 have HSD := Lib.hid (unseal_sd h.cs.sound hf)
 have hfa := h.facts
 have HF := Lib.hid hf
 have HX := Lib.hid hx
 by_cases he : e = 0
 ·subst he
  have HG : Hid (unsealG y x most L = (.ok (z, c), L1)) := Lib.hid (by unfold unsealG; rw [hf]; rfl)
  have HW := Lib.hid (unseal_wf hfa.2.1 hfa.2.2 h.wf hf)
  have HT := Lib.hid h
  clear h hf hfa hx
  go_enter Tryz.func138, Tryz.ntmps138
  replace HT := Lib.hid (HT.out.drew g2)
  go_wp2_with fail
  refine wp_region_held_drew (S := (fun W => W.cell? ⟨B, 0, none⟩ = some (.pointer (some ⟨g, 0, none⟩)) ∧ W.cell? ⟨B, 1, none⟩ = some (.int .i64 y.CK) ∧ W.cell? ⟨B, 2, none⟩ = some (.int .i64 y.K) ∧ W.cell? ⟨B, 3, none⟩ = some (.int .i64 y.H) ∧ W.cell? ⟨B, 4, none⟩ = some (.int .u64 y.N))) (by kernel_rfl) (⟨HT.out.c0, HT.out.c1, HT.out.c2, HT.out.c3, HT.out.c4⟩) (fun hHeld => ?_)
  refine tk 0 (h := ?_)
  refine tk 1 (h := ?_)
  refine tk 2 (h := ?_)
  refine tk 3 (hy := fun W hSw => by ((obtain ⟨q0, q1, q2, q3, q4⟩ := hSw; go_simp) <;> with_reducible rfl)) (h := ?_)
  refine tk 4 (h := ?_)
  refine tk 5 (h := ?_)
  refine tk 6 (h := ?_)
  refine tk 7 (hy := fun W hSw => by ((obtain ⟨q0, q1, q2, q3, q4⟩ := hSw; go_simp) <;> with_reducible rfl)) (h := ?_)
  refine tk 8 (h := ?_)
  refine rd2 9 14 (h := fun K' hK => ?g150_0) (h' := fun K' hK => ?g150_1)
  case g150_0 =>
   go_simp
   go_at_call 182
   refine (HT.out.cs.pair.yopenP g2 HT.out.wf HX.out HF.out).mono ?_
   rintro e' w1 ⟨rfl, hp, hk⟩
   replace HT := Lib.hid (HT.out.step hp hk HSD.out)
   clear hp hk
   simp only [Sy.v]
   go_wp2_with fail
   refine hK.out _ _ (⟨HT.out.c0, HT.out.c1, HT.out.c2, HT.out.c3, HT.out.c4⟩) (fun hHeld => ?_)
   clear hK K'
   try simp only [Act.put, p1, p2, p3]
   refine tk 10 (h := ?_)
   refine tk 11 (h := ?_)
   refine tk 12 (h := ?_)
   refine tk 13 (h := ?_)
   refine rd 14 (h := fun K' hK => ?_)
   have HT0 := HT
   go_simp
   obtain ⟨hbx, hbn⟩ := HT.out.box g2 #[.int .i64 0, .int .i64 0, .int .i64 0, .int .u64 0] 45 (b := w1.heap.size) (by first | rfl | simp)
   replace HT := Lib.hid hbx
   have HN := Lib.hid hbn
   clear hbx hbn
   refine hK.out _ _ (⟨HT.out.c0, HT.out.c1, HT.out.c2, HT.out.c3, HT.out.c4⟩) (fun hHeld => ?_)
   clear hK K'
   try simp only [Act.put, p1, p2, p3]
   refine rd 15 (h := fun K' hK => ?_)
   go_simp
   obtain ⟨hbx, hbn⟩ := HT0.out.box g2 #[.int .i64 z.CK, .int .i64 z.K, .int .i64 z.H, .int .u64 z.N] 45 (b := w1.heap.size) rfl
   replace HT := Lib.hid hbx.unbox0
   have HR := Lib.hid (hbx.cs.kept _ _ (List.mem_cons_of_mem _ List.mem_cons_self))
   clear hbx hbn HT0
   refine hK.out _ _ (⟨HT.out.c0, HT.out.c1, HT.out.c2, HT.out.c3, HT.out.c4⟩) (fun hHeld => ?_)
   clear hK K'
   try simp only [Act.put, p1, p2, p3]
   refine tk 16 (h := ?_)
   refine tk 17 (h := ?_)
   refine wpAnyH_done (by kernel_rfl) ?_ _
   generalize hWx : World.alloc _ _ = Wx at HT HR ⊢
   clear hWx
   have r0 := cell_of_row Wx _ 0 _ _ _ HR.out
   have r1 := cell_of_row Wx _ 1 _ _ _ HR.out
   have r2 := cell_of_row Wx _ 2 _ _ _ HR.out
   have r3 := cell_of_row Wx _ 3 _ _ _ HR.out
   simp at r0 r1 r2 r3
   have d0 := HT.out.c0
   have d1 := HT.out.c1
   have d2 := HT.out.c2
   have d3 := HT.out.c3
   have d4 := HT.out.c4
   have f1 := HT.out.fz 1
   have f2 := HT.out.fz 2
   have f3 := HT.out.fz 3
   have f4 := HT.out.fz 4
   go_wp2_with fail
   refine (must_yes _).mono ?_
   rintro e' w2 ⟨rfl, rfl⟩
   go_wp2_with fail
   go_ret
   exact .inl ⟨_, _, HG.out, rfl, HT.out.put4 g2 HW.out⟩
  case g150_1 =>
   go_simp
   obtain ⟨hbx, hbn⟩ := HT.out.box g2 #[.int .i64 0, .int .i64 0, .int .i64 0, .int .u64 0] 45 (b := w.heap.size) (by first | rfl | simp)
   replace HT := Lib.hid hbx
   have HN := Lib.hid hbn
   clear hbx hbn
   refine hK.out _ _ (⟨HT.out.c0, HT.out.c1, HT.out.c2, HT.out.c3, HT.out.c4⟩) (fun hHeld => ?_)
   clear hK K'
   try simp only [Act.put, p1, p2, p3]
   refine rd 9 (h := fun K' hK => ?_)
   go_simp
   go_at_call 182
   refine (HT.out.cs.pair.yopenP g2 HT.out.wf HX.out HF.out).mono ?_
   rintro e' w1 ⟨rfl, hp, hk⟩
   replace HT := Lib.hid (HT.out.step hp hk HSD.out)
   clear hp hk
   simp only [Sy.v]
   go_wp2_with fail
   refine hK.out _ _ (⟨HT.out.c0, HT.out.c1, HT.out.c2, HT.out.c3, HT.out.c4⟩) (fun hHeld => ?_)
   clear hK K'
   try simp only [Act.put, p1, p2, p3]
   refine tk 10 (h := ?_)
   refine tk 11 (h := ?_)
   refine tk 12 (h := ?_)
   refine tk 13 (h := ?_)
   refine rd 15 (h := fun K' hK => ?_)
   obtain ⟨b0, bf0⟩ := HT.out.boxc (List.mem_cons_self) 0 rfl
   obtain ⟨b1, bf1⟩ := HT.out.boxc (List.mem_cons_self) 1 rfl
   obtain ⟨b2, bf2⟩ := HT.out.boxc (List.mem_cons_self) 2 rfl
   obtain ⟨b3, bf3⟩ := HT.out.boxc (List.mem_cons_self) 3 rfl
   go_simp
   obtain ⟨hbx, hbr⟩ := HT.out.unbox4 g2 HN.out (.int .i64 z.CK) (.int .i64 z.K) (.int .i64 z.H) (.int .u64 z.N)
   replace HT := Lib.hid hbx
   have HR := Lib.hid hbr
   clear hbx hbr b0 b1 b2 b3 bf0 bf1 bf2 bf3
   refine hK.out _ _ (⟨HT.out.c0, HT.out.c1, HT.out.c2, HT.out.c3, HT.out.c4⟩) (fun hHeld => ?_)
   clear hK K'
   try simp only [Act.put, p1, p2, p3]
   refine tk 16 (h := ?_)
   refine tk 17 (h := ?_)
   refine wpAnyH_done (by kernel_rfl) ?_ _
   generalize hWx : World.setCell _ _ _ = Wx at HT HR ⊢
   clear hWx
   have r0 := cell_of_row Wx _ 0 _ _ _ HR.out
   have r1 := cell_of_row Wx _ 1 _ _ _ HR.out
   have r2 := cell_of_row Wx _ 2 _ _ _ HR.out
   have r3 := cell_of_row Wx _ 3 _ _ _ HR.out
   simp at r0 r1 r2 r3
   have d0 := HT.out.c0
   have d1 := HT.out.c1
   have d2 := HT.out.c2
   have d3 := HT.out.c3
   have d4 := HT.out.c4
   have f1 := HT.out.fz 1
   have f2 := HT.out.fz 2
   have f3 := HT.out.fz 3
   have f4 := HT.out.fz 4
   go_wp2_with fail
   refine (must_yes _).mono ?_
   rintro e' w2 ⟨rfl, rfl⟩
   go_wp2_with fail
   go_ret
   exact .inl ⟨_, _, HG.out, rfl, HT.out.put4 g2 HW.out⟩
 ·have HG : Hid (unsealG y x most L = (.error e, L1)) := Lib.hid (by unfold unsealG; rw [hf]; exact congrArg (fun r => (r, L1)) (if_neg he))
  have HE := Lib.hid he
  have HT := Lib.hid h
  clear h hf hfa he hx
  go_enter Tryz.func138, Tryz.ntmps138
  replace HT := Lib.hid (HT.out.drew g2)
  go_wp2_with fail
  refine wp_region_held_drew (S := (fun W => W.cell? ⟨B, 0, none⟩ = some (.pointer (some ⟨g, 0, none⟩)) ∧ W.cell? ⟨B, 1, none⟩ = some (.int .i64 y.CK) ∧ W.cell? ⟨B, 2, none⟩ = some (.int .i64 y.K) ∧ W.cell? ⟨B, 3, none⟩ = some (.int .i64 y.H) ∧ W.cell? ⟨B, 4, none⟩ = some (.int .u64 y.N))) (by kernel_rfl) (⟨HT.out.c0, HT.out.c1, HT.out.c2, HT.out.c3, HT.out.c4⟩) (fun hHeld => ?_)
  refine tk 0 (h := ?_)
  refine tk 1 (h := ?_)
  refine tk 2 (h := ?_)
  refine tk 3 (hy := fun W hSw => by ((obtain ⟨q0, q1, q2, q3, q4⟩ := hSw; go_simp) <;> with_reducible rfl)) (h := ?_)
  refine tk 4 (h := ?_)
  refine tk 5 (h := ?_)
  refine tk 6 (h := ?_)
  refine tk 7 (hy := fun W hSw => by ((obtain ⟨q0, q1, q2, q3, q4⟩ := hSw; go_simp) <;> with_reducible rfl)) (h := ?_)
  refine tk 8 (h := ?_)
  refine rd2 9 14 (h := fun K' hK => ?g176_0) (h' := fun K' hK => ?g176_1)
  case g176_0 =>
   go_simp
   go_at_call 182
   refine (HT.out.cs.pair.yopenP g2 HT.out.wf HX.out HF.out).mono ?_
   rintro e' w1 ⟨rfl, hp, hk⟩
   replace HT := Lib.hid (HT.out.step hp hk HSD.out)
   clear hp hk
   simp only [Sy.v]
   go_wp2_with fail
   refine hK.out _ _ (⟨HT.out.c0, HT.out.c1, HT.out.c2, HT.out.c3, HT.out.c4⟩) (fun hHeld => ?_)
   clear hK K'
   try simp only [Act.put, p1, p2, p3]
   refine tk 10 (h := ?_)
   refine tk 11 (h := ?_)
   refine tk 12 (h := ?_)
   refine tk 13 (h := ?_)
   refine rd 14 (h := fun K' hK => ?_)
   have HT0 := HT
   go_simp
   obtain ⟨hbx, hbn⟩ := HT.out.box g2 #[.int .i64 0, .int .i64 0, .int .i64 0, .int .u64 0] 45 (b := w1.heap.size) (by first | rfl | simp)
   replace HT := Lib.hid hbx
   have HN := Lib.hid hbn
   clear hbx hbn
   refine hK.out _ _ (⟨HT.out.c0, HT.out.c1, HT.out.c2, HT.out.c3, HT.out.c4⟩) (fun hHeld => ?_)
   clear hK K'
   try simp only [Act.put, p1, p2, p3]
   refine rd 15 (h := fun K' hK => ?_)
   go_simp
   obtain ⟨hbx, hbn⟩ := HT0.out.box g2 #[.int .i64 z.CK, .int .i64 z.K, .int .i64 z.H, .int .u64 z.N] 45 (b := w1.heap.size) rfl
   replace HT := Lib.hid hbx.unbox0
   have HR := Lib.hid (hbx.cs.kept _ _ (List.mem_cons_of_mem _ List.mem_cons_self))
   clear hbx hbn HT0
   refine hK.out _ _ (⟨HT.out.c0, HT.out.c1, HT.out.c2, HT.out.c3, HT.out.c4⟩) (fun hHeld => ?_)
   clear hK K'
   try simp only [Act.put, p1, p2, p3]
   refine tk 16 (h := ?_)
   refine tk 17 (h := ?_)
   refine wpAnyH_done (by kernel_rfl) ?_ _
   go_wp2_with fail
   refine (must_no _ HE.out _).mono ?_
   rintro e' w2 ⟨rfl, rfl⟩
   unfold Fell
   go_wp2_with fail
   exact ⟨rfl, .inr ⟨_, _, HG.out, HE.out, rfl, HT.out.fall⟩⟩
  case g176_1 =>
   go_simp
   obtain ⟨hbx, hbn⟩ := HT.out.box g2 #[.int .i64 0, .int .i64 0, .int .i64 0, .int .u64 0] 45 (b := w.heap.size) (by first | rfl | simp)
   replace HT := Lib.hid hbx
   have HN := Lib.hid hbn
   clear hbx hbn
   refine hK.out _ _ (⟨HT.out.c0, HT.out.c1, HT.out.c2, HT.out.c3, HT.out.c4⟩) (fun hHeld => ?_)
   clear hK K'
   try simp only [Act.put, p1, p2, p3]
   refine rd 9 (h := fun K' hK => ?_)
   go_simp
   go_at_call 182
   refine (HT.out.cs.pair.yopenP g2 HT.out.wf HX.out HF.out).mono ?_
   rintro e' w1 ⟨rfl, hp, hk⟩
   replace HT := Lib.hid (HT.out.step hp hk HSD.out)
   clear hp hk
   simp only [Sy.v]
   go_wp2_with fail
   refine hK.out _ _ (⟨HT.out.c0, HT.out.c1, HT.out.c2, HT.out.c3, HT.out.c4⟩) (fun hHeld => ?_)
   clear hK K'
   try simp only [Act.put, p1, p2, p3]
   refine tk 10 (h := ?_)
   refine tk 11 (h := ?_)
   refine tk 12 (h := ?_)
   refine tk 13 (h := ?_)
   refine rd 15 (h := fun K' hK => ?_)
   obtain ⟨b0, bf0⟩ := HT.out.boxc (List.mem_cons_self) 0 rfl
   obtain ⟨b1, bf1⟩ := HT.out.boxc (List.mem_cons_self) 1 rfl
   obtain ⟨b2, bf2⟩ := HT.out.boxc (List.mem_cons_self) 2 rfl
   obtain ⟨b3, bf3⟩ := HT.out.boxc (List.mem_cons_self) 3 rfl
   go_simp
   obtain ⟨hbx, hbr⟩ := HT.out.unbox4 g2 HN.out (.int .i64 z.CK) (.int .i64 z.K) (.int .i64 z.H) (.int .u64 z.N)
   replace HT := Lib.hid hbx
   have HR := Lib.hid hbr
   clear hbx hbr b0 b1 b2 b3 bf0 bf1 bf2 bf3
   refine hK.out _ _ (⟨HT.out.c0, HT.out.c1, HT.out.c2, HT.out.c3, HT.out.c4⟩) (fun hHeld => ?_)
   clear hK K'
   try simp only [Act.put, p1, p2, p3]
   refine tk 16 (h := ?_)
   refine tk 17 (h := ?_)
   refine wpAnyH_done (by kernel_rfl) ?_ _
   go_wp2_with fail
   refine (must_no _ HE.out _).mono ?_
   rintro e' w2 ⟨rfl, rfl⟩
   unfold Fell
   go_wp2_with fail
   exact ⟨rfl, .inr ⟨_, _, HG.out, HE.out, rfl, HT.out.fall⟩⟩
set_option maxHeartbeats 2000000 in
theorem tk_split (g2 : Good base Q2) (h : Tk base g most Q2 L L2 bs B T y rest w0 w)  :
  Calls Tryz.prog 147 #[.pointer (some ⟨B, 0, none⟩)] w (Gp (splitG y most L) (fun r => .tuple #[.int .i64 r.1, .int .i64 r.2]) (fun L' x w' => Tk base g most Q2 L' L2 bs B T y rest w0 w') (fun L' w' => Cs base (PSq base g most) Q2 L' L2 bs w0 w')) := by
 obtain ⟨a, b, e, L1, hf⟩ : ∃ a b e L1, splitF L most y = (a, b, e, L1) := ⟨_, _, _, _, rfl⟩
 have HSD := Lib.hid (split_sd h.cs.sound hf)
 have hfa := h.facts
 have HF := Lib.hid hf
 by_cases he : e = 0
 ·subst he
  have HG : Hid (splitG y most L = (.ok (a, b), L1)) := Lib.hid (by unfold splitG; rw [hf]; rfl)
  have HT := Lib.hid h
  clear h hf hfa
  go_enter Tryz.func147, Tryz.ntmps147
  replace HT := Lib.hid (HT.out.drew g2)
  go_wp2_with fail
  refine wp_region_held_drew (S := (fun W => W.cell? ⟨B, 0, none⟩ = some (.pointer (some ⟨g, 0, none⟩)) ∧ W.cell? ⟨B, 1, none⟩ = some (.int .i64 y.CK) ∧ W.cell? ⟨B, 2, none⟩ = some (.int .i64 y.K) ∧ W.cell? ⟨B, 3, none⟩ = some (.int .i64 y.H) ∧ W.cell? ⟨B, 4, none⟩ = some (.int .u64 y.N))) (by kernel_rfl) (⟨HT.out.c0, HT.out.c1, HT.out.c2, HT.out.c3, HT.out.c4⟩) (fun hHeld => ?_)
  refine tk 0 (h := ?_)
  refine tk 1 (h := ?_)
  refine tk 2 (h := ?_)
  refine tk 3 (hy := fun W hSw => by ((obtain ⟨q0, q1, q2, q3, q4⟩ := hSw; go_simp) <;> with_reducible rfl)) (h := ?_)
  refine tk 4 (h := ?_)
  refine tk 5 (h := ?_)
  refine tk 6 (h := ?_)
  refine tk 7 (hy := fun W hSw => by ((obtain ⟨q0, q1, q2, q3, q4⟩ := hSw; go_simp) <;> with_reducible rfl)) (h := ?_)
  refine rd 8 (h := fun K' hK => ?_)
  go_simp
  go_at_call 185
  refine (HT.out.cs.pair.splitP g2 HT.out.wf HF.out).mono ?_
  rintro e' w1 ⟨rfl, hp, hk⟩
  replace HT := Lib.hid (HT.out.step hp hk HSD.out)
  clear hp hk
  go_wp2_with fail
  refine hK.out _ _ (⟨HT.out.c0, HT.out.c1, HT.out.c2, HT.out.c3, HT.out.c4⟩) (fun hHeld => ?_)
  clear hK K'
  try simp only [Act.put, p1, p2, p3]
  refine tk 9 (h := ?_)
  refine tk 10 (h := ?_)
  refine tk 11 (h := ?_)
  refine tk 12 (h := ?_)
  refine tk 13 (h := ?_)
  refine tk 14 (h := ?_)
  refine tk 15 (h := ?_)
  refine wpAnyH_done (by kernel_rfl) ?_ _
  go_wp2_with fail
  refine (must_yes _).mono ?_
  rintro e' w2 ⟨rfl, rfl⟩
  go_wp2_with fail
  go_ret2
  exact .inl ⟨_, _, HG.out, rfl, HT.out⟩
 ·have HG : Hid (splitG y most L = (.error e, L1)) := Lib.hid (by unfold splitG; rw [hf]; exact congrArg (fun r => (r, L1)) (if_neg he))
  have HE := Lib.hid he
  have HT := Lib.hid h
  clear h hf hfa he
  go_enter Tryz.func147, Tryz.ntmps147
  replace HT := Lib.hid (HT.out.drew g2)
  go_wp2_with fail
  refine wp_region_held_drew (S := (fun W => W.cell? ⟨B, 0, none⟩ = some (.pointer (some ⟨g, 0, none⟩)) ∧ W.cell? ⟨B, 1, none⟩ = some (.int .i64 y.CK) ∧ W.cell? ⟨B, 2, none⟩ = some (.int .i64 y.K) ∧ W.cell? ⟨B, 3, none⟩ = some (.int .i64 y.H) ∧ W.cell? ⟨B, 4, none⟩ = some (.int .u64 y.N))) (by kernel_rfl) (⟨HT.out.c0, HT.out.c1, HT.out.c2, HT.out.c3, HT.out.c4⟩) (fun hHeld => ?_)
  refine tk 0 (h := ?_)
  refine tk 1 (h := ?_)
  refine tk 2 (h := ?_)
  refine tk 3 (hy := fun W hSw => by ((obtain ⟨q0, q1, q2, q3, q4⟩ := hSw; go_simp) <;> with_reducible rfl)) (h := ?_)
  refine tk 4 (h := ?_)
  refine tk 5 (h := ?_)
  refine tk 6 (h := ?_)
  refine tk 7 (hy := fun W hSw => by ((obtain ⟨q0, q1, q2, q3, q4⟩ := hSw; go_simp) <;> with_reducible rfl)) (h := ?_)
  refine rd 8 (h := fun K' hK => ?_)
  go_simp
  go_at_call 185
  refine (HT.out.cs.pair.splitP g2 HT.out.wf HF.out).mono ?_
  rintro e' w1 ⟨rfl, hp, hk⟩
  replace HT := Lib.hid (HT.out.step hp hk HSD.out)
  clear hp hk
  go_wp2_with fail
  refine hK.out _ _ (⟨HT.out.c0, HT.out.c1, HT.out.c2, HT.out.c3, HT.out.c4⟩) (fun hHeld => ?_)
  clear hK K'
  try simp only [Act.put, p1, p2, p3]
  refine tk 9 (h := ?_)
  refine tk 10 (h := ?_)
  refine tk 11 (h := ?_)
  refine tk 12 (h := ?_)
  refine tk 13 (h := ?_)
  refine tk 14 (h := ?_)
  refine tk 15 (h := ?_)
  refine wpAnyH_done (by kernel_rfl) ?_ _
  go_wp2_with fail
  refine (must_no _ HE.out _).mono ?_
  rintro e' w2 ⟨rfl, rfl⟩
  unfold Fell
  go_wp2_with fail
  exact ⟨rfl, .inr ⟨_, _, HG.out, HE.out, rfl, HT.out.fall⟩⟩
end
end Go.Proofs.YtgeonppckeiceaaGreatDoor
