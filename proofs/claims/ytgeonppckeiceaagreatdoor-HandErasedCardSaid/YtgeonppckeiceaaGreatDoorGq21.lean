/- The steps of Begin (by tools/stage17/steps.py). -/
/- The checks; the slot (by tools/stage17/steps.py). -/
/- The public keys of secrets: the program's contract. -/
import Derived.Test.YtgeonppckeiceaaGreatDoorGq01
import Derived.Test.YtgeonppckeiceaaGreatDoorGq20
import Derived.Test.YtgeonppckeiceaaGreatDoorGq19
namespace Go.Proofs.YtgeonppckeiceaaGreatDoor
open Go.RowKit
set_option linter.unusedVariables false
set_option linter.unusedSimpArgs false
set_option maxRecDepth 20000
theorem sealG_i64 {y z : Sy} {x c : Int} {L L' : List Tm} {most : Int} (hl : (L.length : Int) ≤ most) (hm : most ≤ 1048576) (hf : Fit L) (hy : y.Wf) (h : sealG y x most L = (.ok (z, c), L')) : I64 c := by
 obtain ⟨z1, c1, e, L1, hq⟩ : ∃ z c e L1, sealF L most y x = (z, c, e, L1) := ⟨_, _, _, _, rfl⟩
 unfold sealG at h
 rw [hq] at h
 by_cases he : e = 0
 ·subst he
  injection h with h1 h2
  injection h1 with h1
  injection h1 with h3 h4
  rw [← h4]
  exact (sealY_wf hl hm hf hy hq).2
 ·injection h with h1 h2
  rw [show (if e = 0 then Except.ok (z1, c1) else Except.error e : Except Int (Sy × Int)) = .error e from if_neg he] at h1
  cases h1
theorem boxG_i64 {y z : Sy} {p d b : Int} {L L' : List Tm} {most : Int} (hl : (L.length : Int) ≤ most) (hm : most ≤ 1048576) (hf : Fit L) (h : boxG y p d most L = (.ok (z, b), L')) : I64 b := by
 unfold boxG at h
 obtain ⟨q, L1, h1, h2⟩ := G.to_inv h
 obtain ⟨y1, L2, h3, h4⟩ := G.to_inv h2
 obtain ⟨y2, L3, h5, h6⟩ := G.to_inv h4
 injection h6 with h7 h8
 injection h7 with h7
 injection h7 with h9 h10
 rw [← h10]
 obtain ⟨a, c, e, M, hq⟩ : ∃ a c e M, wrapF L most p d = (a, c, e, M) := ⟨_, _, _, _, rfl⟩
 unfold wrapG at h1
 rw [hq] at h1
 by_cases he : e = 0
 ·subst he
  injection h1 with h1 h11
  injection h1 with h1
  rw [← h1]
  exact (wrap_i64 hl hm hf hq).1
 ·injection h1 with h1 h11
  rw [show (if e = 0 then Except.ok (a, c) else Except.error e : Except Int (Int × Int)) = .error e from if_neg he] at h1
  cases h1
section
variable {base g B : Nat} {most : Int} {Q2 : (Nat → Prop) → List Tm → World → Prop} {L L' L2 : List Tm} {bs : List (Nat × Obj)} {w0 w w' : World}
set_option maxHeartbeats 1000000 in
theorem bg_sayE (g2 : Good base Q2) {P : BgP} {s : Begun} (h : Tk base g most Q2 L L2 bs B 129 s.y (P.rest s) w0 w) (ho : BgOk s) (hd : I64 P.d0) :
  Calls Tryz.prog 52 #[.pointer (some ⟨B, 0, none⟩)] w (Gp (bgE P s most L) (fun _ => .tuple #[]) (fun L' x w' => Tk base g most Q2 L' L2 bs B 129 x.y (P.rest x) w0 w' ∧ BgOk x) (fun L' w' => Cs base (PSq base g most) Q2 L' L2 bs w0 w')) := by
 have HT := Lib.hid h
 have HO := Lib.hid ho
 have HHD := Lib.hid hd
 clear h ho hd
 go_enter Tryz.func52, Tryz.ntmps52
 replace HT := Lib.hid (HT.out.drew g2)
 refine wp_region_held_drew (S := (fun W => W.cell? ⟨B, 0, none⟩ = some (.pointer (some ⟨g, 0, none⟩)) ∧ W.cell? ⟨B, 25, none⟩ = some (.int .i64 P.d0))) (by kernel_rfl) (⟨HT.out.c0, (HT.out.at 20 rfl)⟩) (fun hHeld => ?_)
 refine tk 0 (h := ?_)
 refine tk 1 (h := ?_)
 refine tk 2 (h := ?_)
 refine tk 3 (h := ?_)
 refine tk 4 (h := ?_)
 refine tk 5 (h := ?_)
 refine tk 6 (h := ?_)
 refine tk 7 (h := ?_)
 refine tk 8 (hy := fun W hSw => by ((obtain ⟨q0, q25⟩ := hSw; go_simp) <;> with_reducible rfl)) (h := ?_)
 refine tk 9 (h := ?_)
 refine tk 10 (h := ?_)
 refine tk 11 (h := ?_)
 refine tk 12 (h := ?_)
 refine tk 13 (hy := fun W hSw => by ((obtain ⟨q0, q25⟩ := hSw; go_simp) <;> with_reducible rfl)) (h := ?_)
 refine rd 14 (h := fun K' hK => ?_)
 obtain ⟨a, e, MHF, hf⟩ : ∃ a e MHF, putF L most (pubT P.d0) = (a, e, MHF) := ⟨_, _, _, rfl⟩
 have HF := Lib.hid hf
 have HFs := Lib.hid (put_sd HT.out.cs.sound hf)
 have HFi := Lib.hid (name_i64 HT.out.facts.2.1 HT.out.facts.2.2 hf)
 clear hf
 go_simp
 go_at_call 46
 refine (HT.out.cs.pair.publicP g2 HHD.out HF.out).mono ?_
 rintro e' W1 ⟨rfl, hp, hk⟩
 replace HT := Lib.hid (HT.out.step hp hk HFs.out)
 clear hp hk
 go_wp2_with fail
 refine hK.out _ _ (⟨HT.out.c0, (HT.out.at 20 rfl)⟩) (fun hHeld => ?_)
 clear hK K'
 try simp only [Act.put, p1, p2, p3]
 refine tk 15 (h := ?_)
 refine tk 16 (h := ?_)
 refine rd 17 (h := fun K' hK => ?_)
 go_simp
 go_at_call 118
 by_cases he : e = 0
 ·subst he
  refine (got_yes _ _).mono ?_
  rintro e' W2 ⟨rfl, rfl⟩
  go_wp2_with fail
  refine hK.out _ _ (⟨HT.out.c0, (HT.out.at 20 rfl)⟩) (fun hHeld => ?_)
  clear hK K'
  try simp only [Act.put, p1, p2, p3]
  refine rd 18 (h := fun K' hK => ?_)
  go_simp
  go_at_call 117
  refine (tk_say g2 HT.out HFi.out).mono ?_
  rintro e' W1 (⟨z, ME1, hm, rfl, hT⟩ | ⟨c, ME1, hm, hc, rfl, hT⟩)
  ·have E1 := Lib.hid hm
   have HTold := HT
   replace HT := Lib.hid hT
   clear hm hT
   go_wp2_with fail
   refine hK.out _ _ (⟨HT.out.c0, (HT.out.at 20 rfl)⟩) (fun hHeld => ?_)
   clear hK K'
   try simp only [Act.put, p1, p2, p3]
   refine tk 19 (h := ?_)
   refine tk 20 (h := ?_)
   refine tk 21 (h := ?_)
   refine rd 22 (h := fun K' hK => ?_)
   have dst := HT.out.at 12 rfl
   have dfz := HT.out.fz 17
   go_simp
   replace HT := Lib.hid (HT.out.put g2 12 (.int .i64 a))
   clear dst dfz
   refine hK.out _ _ (⟨HT.out.c0, (HT.out.at 20 rfl)⟩) (fun hHeld => ?_)
   clear hK K'
   try simp only [Act.put, p1, p2, p3]
   refine wpAnyH_done (by kernel_rfl) ?_ _
   go_wp2_with fail
   go_end0
   exact .inl ⟨{ s with e := a, y := z }, _, by unfold bgE; exact (G.to_ok (putG_ok HF.out)).trans ((G.to_ok E1.out).trans (rfl)), rfl, HT.out, ⟨HFi.out, HO.out.2⟩⟩
  ·unfold Fell
   go_wp2_with fail
   exact ⟨rfl, .inr ⟨_, _, by unfold bgE; exact (G.to_ok (putG_ok HF.out)).trans (G.to_bad hm), hc, rfl, hT⟩⟩
 ·have HE := Lib.hid he
  clear he
  refine (got_no _ _ HE.out _).mono ?_
  rintro e' W2 ⟨rfl, rfl⟩
  unfold Fell
  go_wp2_with fail
  exact ⟨rfl, .inr ⟨_, _, by unfold bgE; exact G.to_bad (putG_no HF.out HE.out), HE.out, rfl, HT.out.fall⟩⟩
set_option maxHeartbeats 1000000 in
theorem bg_sayEK (g2 : Good base Q2) {P : BgP} {s : Begun} (h : Tk base g most Q2 L L2 bs B 129 s.y (P.rest s) w0 w) (ho : BgOk s) (hd : I64 P.d1) :
  Calls Tryz.prog 53 #[.pointer (some ⟨B, 0, none⟩)] w (Gp (bgEK P s most L) (fun _ => .tuple #[]) (fun L' x w' => Tk base g most Q2 L' L2 bs B 129 x.y (P.rest x) w0 w' ∧ BgOk x) (fun L' w' => Cs base (PSq base g most) Q2 L' L2 bs w0 w')) := by
 have HT := Lib.hid h
 have HO := Lib.hid ho
 have HHD := Lib.hid hd
 clear h ho hd
 go_enter Tryz.func53, Tryz.ntmps53
 replace HT := Lib.hid (HT.out.drew g2)
 refine wp_region_held_drew (S := (fun W => W.cell? ⟨B, 0, none⟩ = some (.pointer (some ⟨g, 0, none⟩)) ∧ W.cell? ⟨B, 26, none⟩ = some (.int .i64 P.d1))) (by kernel_rfl) (⟨HT.out.c0, (HT.out.at 21 rfl)⟩) (fun hHeld => ?_)
 refine tk 0 (h := ?_)
 refine tk 1 (h := ?_)
 refine tk 2 (h := ?_)
 refine tk 3 (h := ?_)
 refine tk 4 (h := ?_)
 refine tk 5 (h := ?_)
 refine tk 6 (h := ?_)
 refine tk 7 (h := ?_)
 refine tk 8 (hy := fun W hSw => by ((obtain ⟨q0, q26⟩ := hSw; go_simp) <;> with_reducible rfl)) (h := ?_)
 refine tk 9 (h := ?_)
 refine tk 10 (h := ?_)
 refine tk 11 (h := ?_)
 refine tk 12 (h := ?_)
 refine tk 13 (hy := fun W hSw => by ((obtain ⟨q0, q26⟩ := hSw; go_simp) <;> with_reducible rfl)) (h := ?_)
 refine rd 14 (h := fun K' hK => ?_)
 obtain ⟨a, e, MHF, hf⟩ : ∃ a e MHF, putF L most (kpubT P.d1) = (a, e, MHF) := ⟨_, _, _, rfl⟩
 have HF := Lib.hid hf
 have HFs := Lib.hid (put_sd HT.out.cs.sound hf)
 have HFi := Lib.hid (name_i64 HT.out.facts.2.1 HT.out.facts.2.2 hf)
 clear hf
 go_simp
 go_at_call 47
 refine (HT.out.cs.pair.kpublicP g2 HHD.out HF.out).mono ?_
 rintro e' W1 ⟨rfl, hp, hk⟩
 replace HT := Lib.hid (HT.out.step hp hk HFs.out)
 clear hp hk
 go_wp2_with fail
 refine hK.out _ _ (⟨HT.out.c0, (HT.out.at 21 rfl)⟩) (fun hHeld => ?_)
 clear hK K'
 try simp only [Act.put, p1, p2, p3]
 refine tk 15 (h := ?_)
 refine tk 16 (h := ?_)
 refine rd 17 (h := fun K' hK => ?_)
 go_simp
 go_at_call 118
 by_cases he : e = 0
 ·subst he
  refine (got_yes _ _).mono ?_
  rintro e' W2 ⟨rfl, rfl⟩
  go_wp2_with fail
  refine hK.out _ _ (⟨HT.out.c0, (HT.out.at 21 rfl)⟩) (fun hHeld => ?_)
  clear hK K'
  try simp only [Act.put, p1, p2, p3]
  refine rd 18 (h := fun K' hK => ?_)
  go_simp
  go_at_call 117
  refine (tk_say g2 HT.out HFi.out).mono ?_
  rintro e' W1 (⟨z, ME1, hm, rfl, hT⟩ | ⟨c, ME1, hm, hc, rfl, hT⟩)
  ·have E1 := Lib.hid hm
   have HTold := HT
   replace HT := Lib.hid hT
   clear hm hT
   go_wp2_with fail
   refine hK.out _ _ (⟨HT.out.c0, (HT.out.at 21 rfl)⟩) (fun hHeld => ?_)
   clear hK K'
   try simp only [Act.put, p1, p2, p3]
   refine tk 19 (h := ?_)
   refine tk 20 (h := ?_)
   refine tk 21 (h := ?_)
   refine rd 22 (h := fun K' hK => ?_)
   have dst := HT.out.at 13 rfl
   have dfz := HT.out.fz 18
   go_simp
   replace HT := Lib.hid (HT.out.put g2 13 (.int .i64 a))
   clear dst dfz
   refine hK.out _ _ (⟨HT.out.c0, (HT.out.at 21 rfl)⟩) (fun hHeld => ?_)
   clear hK K'
   try simp only [Act.put, p1, p2, p3]
   refine wpAnyH_done (by kernel_rfl) ?_ _
   go_wp2_with fail
   go_end0
   exact .inl ⟨{ s with ek := a, y := z }, _, by unfold bgEK; exact (G.to_ok (putG_ok HF.out)).trans ((G.to_ok E1.out).trans (rfl)), rfl, HT.out, ⟨HO.out.1, HFi.out, HO.out.2.2⟩⟩
  ·unfold Fell
   go_wp2_with fail
   exact ⟨rfl, .inr ⟨_, _, by unfold bgEK; exact (G.to_ok (putG_ok HF.out)).trans (G.to_bad hm), hc, rfl, hT⟩⟩
 ·have HE := Lib.hid he
  clear he
  refine (got_no _ _ HE.out _).mono ?_
  rintro e' W2 ⟨rfl, rfl⟩
  unfold Fell
  go_wp2_with fail
  exact ⟨rfl, .inr ⟨_, _, by unfold bgEK; exact G.to_bad (putG_no HF.out HE.out), HE.out, rfl, HT.out.fall⟩⟩
set_option maxHeartbeats 1000000 in
theorem bg_first (g2 : Good base Q2) {P : BgP} {s : Begun} (h : Tk base g most Q2 L L2 bs B 129 s.y (P.rest s) w0 w) (ho : BgOk s) (ho1 : P.offer.size ≤ maxLen) (hs : P.slot = 0 ∨ P.slot = 1) (hp : I64 P.p.dh) (hq : I64 P.p.kem) :
  Calls Tryz.prog 51 #[.pointer (some ⟨B, 0, none⟩)] w (Gp (bgFirst P s most L) (fun _ => .tuple #[]) (fun L' x w' => Tk base g most Q2 L' L2 bs B 129 x.y (P.rest x) w0 w' ∧ BgOk x) (fun L' w' => Cs base (PSq base g most) Q2 L' L2 bs w0 w')) := by
 have HT := Lib.hid h
 have HO := Lib.hid ho
 have HHO1 := Lib.hid ho1
 have HHS := Lib.hid hs
 have HHP := Lib.hid hp
 have HHQ := Lib.hid hq
 clear h ho ho1 hs hp hq
 go_enter Tryz.func51, Tryz.ntmps51
 replace HT := Lib.hid (HT.out.drew g2)
 refine wp_region_held_drew (S := (fun W => W.cell? ⟨B, 14, none⟩ = some (.string P.offer) ∧ W.cell? ⟨B, 15, none⟩ = some (.int .i64 P.slot) ∧ W.cell? ⟨B, 7, none⟩ = some (.int .i64 P.p.dh) ∧ W.cell? ⟨B, 8, none⟩ = some (.int .i64 P.p.kem))) (by kernel_rfl) (⟨(HT.out.at 9 rfl), (HT.out.at 10 rfl), (HT.out.at 2 rfl), (HT.out.at 3 rfl)⟩) (fun hHeld => ?_)
 refine tk 0 (h := ?_)
 refine tk 1 (h := ?_)
 refine tk 2 (h := ?_)
 refine tk 3 (h := ?_)
 refine tk 4 (h := ?_)
 refine tk 5 (h := ?_)
 refine tk 6 (h := ?_)
 refine tk 7 (hy := fun W hSw => by ((obtain ⟨q14, q15, q7, q8⟩ := hSw; go_simp) <;> with_reducible rfl)) (h := ?_)
 refine tk 8 (h := ?_)
 refine tk 9 (h := ?_)
 refine tk 10 (h := ?_)
 refine tk 11 (h := ?_)
 refine tk 12 (hy := fun W hSw => by ((obtain ⟨q14, q15, q7, q8⟩ := hSw; go_simp) <;> with_reducible rfl)) (h := ?_)
 refine tk 13 (h := ?_)
 refine tk 14 (h := ?_)
 refine tk 15 (h := ?_)
 refine tk 16 (h := ?_)
 refine tk 17 (hy := fun W hSw => by ((obtain ⟨q14, q15, q7, q8⟩ := hSw; go_simp) <;> with_reducible rfl)) (h := ?_)
 refine rd 18 (h := fun K' hK => ?_)
 go_simp
 go_at_call 116
 refine (tk_first g2 HT.out HHO1.out HHS.out HHP.out HHQ.out).mono ?_
 rintro e' W1 (⟨z, ME1, hm, rfl, hT⟩ | ⟨c, ME1, hm, hc, rfl, hT⟩)
 ·have E1 := Lib.hid hm
  have HTold := HT
  replace HT := Lib.hid hT
  clear hm hT
  go_wp2_with fail
  refine hK.out _ _ (⟨(HT.out.at 9 rfl), (HT.out.at 10 rfl), (HT.out.at 2 rfl), (HT.out.at 3 rfl)⟩) (fun hHeld => ?_)
  clear hK K'
  try simp only [Act.put, p1, p2, p3]
  refine wpAnyH_done (by kernel_rfl) ?_ _
  go_wp2_with fail
  go_end0
  exact .inl ⟨{ s with y := z }, _, by unfold bgFirst; exact (G.to_ok E1.out).trans (rfl), rfl, HT.out, HO.out⟩
 ·unfold Fell
  go_wp2_with fail
  exact ⟨rfl, .inr ⟨_, _, by unfold bgFirst; exact G.to_bad hm, hc, rfl, hT⟩⟩
set_option maxHeartbeats 1000000 in
theorem bg_mixE (g2 : Good base Q2) {P : BgP} {s : Begun} (h : Tk base g most Q2 L L2 bs B 129 s.y (P.rest s) w0 w) (ho : BgOk s) (hd : I64 P.d0) :
  Calls Tryz.prog 54 #[.pointer (some ⟨B, 0, none⟩)] w (Gp (bgMixE P s most L) (fun _ => .tuple #[]) (fun L' x w' => Tk base g most Q2 L' L2 bs B 129 x.y (P.rest x) w0 w' ∧ BgOk x) (fun L' w' => Cs base (PSq base g most) Q2 L' L2 bs w0 w')) := by
 have HT := Lib.hid h
 have HO := Lib.hid ho
 have HHD := Lib.hid hd
 clear h ho hd
 go_enter Tryz.func54, Tryz.ntmps54
 replace HT := Lib.hid (HT.out.drew g2)
 refine wp_region_held_drew (S := (fun W => W.cell? ⟨B, 25, none⟩ = some (.int .i64 P.d0) ∧ W.cell? ⟨B, 7, none⟩ = some (.int .i64 P.p.dh))) (by kernel_rfl) (⟨(HT.out.at 20 rfl), (HT.out.at 2 rfl)⟩) (fun hHeld => ?_)
 refine tk 0 (h := ?_)
 refine tk 1 (h := ?_)
 refine tk 2 (h := ?_)
 refine tk 3 (h := ?_)
 refine tk 4 (h := ?_)
 refine tk 5 (h := ?_)
 refine tk 6 (h := ?_)
 refine tk 7 (hy := fun W hSw => by ((obtain ⟨q25, q7⟩ := hSw; go_simp) <;> with_reducible rfl)) (h := ?_)
 refine tk 8 (h := ?_)
 refine tk 9 (h := ?_)
 refine tk 10 (h := ?_)
 refine tk 11 (h := ?_)
 refine tk 12 (h := ?_)
 refine tk 13 (hy := fun W hSw => by ((obtain ⟨q25, q7⟩ := hSw; go_simp) <;> with_reducible rfl)) (h := ?_)
 refine rd 14 (h := fun K' hK => ?_)
 go_simp
 go_at_call 119
 refine (tk_share g2 HT.out HHD.out).mono ?_
 rintro e' W1 (⟨z, ME1, hm, rfl, hT⟩ | ⟨c, ME1, hm, hc, rfl, hT⟩)
 ·have E1 := Lib.hid hm
  have HTold := HT
  replace HT := Lib.hid hT
  clear hm hT
  go_wp2_with fail
  refine hK.out _ _ (⟨(HT.out.at 20 rfl), (HT.out.at 2 rfl)⟩) (fun hHeld => ?_)
  clear hK K'
  try simp only [Act.put, p1, p2, p3]
  refine wpAnyH_done (by kernel_rfl) ?_ _
  go_wp2_with fail
  go_end0
  exact .inl ⟨{ s with y := z }, _, by unfold bgMixE; exact (G.to_ok E1.out).trans (rfl), rfl, HT.out, HO.out⟩
 ·unfold Fell
  go_wp2_with fail
  exact ⟨rfl, .inr ⟨_, _, by unfold bgMixE; exact G.to_bad hm, hc, rfl, hT⟩⟩
set_option maxHeartbeats 1000000 in
theorem bg_wrapSecret (g2 : Good base Q2) {P : BgP} {s : Begun} (h : Tk base g most Q2 L L2 bs B 129 s.y (P.rest s) w0 w) (ho : BgOk s) (hd : I64 P.d2) :
  Calls Tryz.prog 55 #[.pointer (some ⟨B, 0, none⟩)] w (Gp (bgWrap P s most L) (fun _ => .tuple #[]) (fun L' x w' => Tk base g most Q2 L' L2 bs B 129 x.y (P.rest x) w0 w' ∧ BgOk x) (fun L' w' => Cs base (PSq base g most) Q2 L' L2 bs w0 w')) := by
 have HT := Lib.hid h
 have HO := Lib.hid ho
 have HHD := Lib.hid hd
 clear h ho hd
 go_enter Tryz.func55, Tryz.ntmps55
 replace HT := Lib.hid (HT.out.drew g2)
 refine wp_region_held_drew (S := (fun W => W.cell? ⟨B, 8, none⟩ = some (.int .i64 P.p.kem) ∧ W.cell? ⟨B, 27, none⟩ = some (.int .i64 P.d2))) (by kernel_rfl) (⟨(HT.out.at 3 rfl), (HT.out.at 22 rfl)⟩) (fun hHeld => ?_)
 refine tk 0 (h := ?_)
 refine tk 1 (h := ?_)
 refine tk 2 (h := ?_)
 refine tk 3 (h := ?_)
 refine tk 4 (h := ?_)
 refine tk 5 (h := ?_)
 refine tk 6 (h := ?_)
 refine tk 7 (h := ?_)
 refine tk 8 (h := ?_)
 refine tk 9 (hy := fun W hSw => by ((obtain ⟨q8, q27⟩ := hSw; go_simp) <;> with_reducible rfl)) (h := ?_)
 refine tk 10 (h := ?_)
 refine tk 11 (h := ?_)
 refine tk 12 (h := ?_)
 refine tk 13 (h := ?_)
 refine tk 14 (hy := fun W hSw => by ((obtain ⟨q8, q27⟩ := hSw; go_simp) <;> with_reducible rfl)) (h := ?_)
 refine rd 15 (h := fun K' hK => ?_)
 go_simp
 go_at_call 120
 refine (tk_wrap g2 HT.out HHD.out).mono ?_
 rintro e' W1 (⟨⟨z, b⟩, ME1, hm, rfl, hT⟩ | ⟨c, ME1, hm, hc, rfl, hT⟩)
 ·have E1 := Lib.hid hm
  have HTold := HT
  replace HT := Lib.hid hT
  clear hm hT
  have HBI := Lib.hid (boxG_i64 HTold.out.facts.2.1 HTold.out.facts.2.2 HTold.out.facts.1 E1.out)
  go_wp2_with fail
  refine hK.out _ _ (⟨(HT.out.at 3 rfl), (HT.out.at 22 rfl)⟩) (fun hHeld => ?_)
  clear hK K'
  try simp only [Act.put, p1, p2, p3]
  refine tk 16 (h := ?_)
  refine tk 17 (h := ?_)
  refine tk 18 (h := ?_)
  refine rd 19 (h := fun K' hK => ?_)
  have dst := HT.out.at 14 rfl
  have dfz := HT.out.fz 19
  go_simp
  replace HT := Lib.hid (HT.out.put g2 14 (.int .i64 b))
  clear dst dfz
  refine hK.out _ _ (⟨(HT.out.at 3 rfl), (HT.out.at 22 rfl)⟩) (fun hHeld => ?_)
  clear hK K'
  try simp only [Act.put, p1, p2, p3]
  refine wpAnyH_done (by kernel_rfl) ?_ _
  go_wp2_with fail
  go_end0
  exact .inl ⟨{ s with box := b, y := z }, _, by unfold bgWrap; exact (G.to_ok E1.out).trans (rfl), rfl, HT.out, ⟨HO.out.1, HO.out.2.1, HBI.out, HO.out.2.2.2⟩⟩
 ·unfold Fell
  go_wp2_with fail
  exact ⟨rfl, .inr ⟨_, _, by unfold bgWrap; exact G.to_bad hm, hc, rfl, hT⟩⟩
set_option maxHeartbeats 1000000 in
theorem bg_sealMe (g2 : Good base Q2) {P : BgP} {s : Begun} (h : Tk base g most Q2 L L2 bs B 129 s.y (P.rest s) w0 w) (ho : BgOk s) (hd : I64 P.a1) :
  Calls Tryz.prog 56 #[.pointer (some ⟨B, 0, none⟩)] w (Gp (bgSealMe P s most L) (fun _ => .tuple #[]) (fun L' x w' => Tk base g most Q2 L' L2 bs B 129 x.y (P.rest x) w0 w' ∧ BgOk x) (fun L' w' => Cs base (PSq base g most) Q2 L' L2 bs w0 w')) := by
 have HT := Lib.hid h
 have HO := Lib.hid ho
 have HHD := Lib.hid hd
 clear h ho hd
 go_enter Tryz.func56, Tryz.ntmps56
 replace HT := Lib.hid (HT.out.drew g2)
 refine wp_region_held_drew (S := (fun W => W.cell? ⟨B, 0, none⟩ = some (.pointer (some ⟨g, 0, none⟩)) ∧ W.cell? ⟨B, 5, none⟩ = some (.int .i64 P.a1))) (by kernel_rfl) (⟨HT.out.c0, (HT.out.at 0 rfl)⟩) (fun hHeld => ?_)
 refine tk 0 (h := ?_)
 refine tk 1 (h := ?_)
 refine tk 2 (h := ?_)
 refine tk 3 (h := ?_)
 refine tk 4 (h := ?_)
 refine tk 5 (h := ?_)
 refine tk 6 (h := ?_)
 refine tk 7 (h := ?_)
 refine tk 8 (hy := fun W hSw => by ((obtain ⟨q0, q5⟩ := hSw; go_simp) <;> with_reducible rfl)) (h := ?_)
 refine tk 9 (h := ?_)
 refine tk 10 (h := ?_)
 refine tk 11 (h := ?_)
 refine tk 12 (h := ?_)
 refine tk 13 (hy := fun W hSw => by ((obtain ⟨q0, q5⟩ := hSw; go_simp) <;> with_reducible rfl)) (h := ?_)
 refine rd 14 (h := fun K' hK => ?_)
 obtain ⟨a, e, MHF, hf⟩ : ∃ a e MHF, putF L most (pubT P.a1) = (a, e, MHF) := ⟨_, _, _, rfl⟩
 have HF := Lib.hid hf
 have HFs := Lib.hid (put_sd HT.out.cs.sound hf)
 have HFi := Lib.hid (name_i64 HT.out.facts.2.1 HT.out.facts.2.2 hf)
 clear hf
 go_simp
 go_at_call 46
 refine (HT.out.cs.pair.publicP g2 HHD.out HF.out).mono ?_
 rintro e' W1 ⟨rfl, hp, hk⟩
 replace HT := Lib.hid (HT.out.step hp hk HFs.out)
 clear hp hk
 go_wp2_with fail
 refine hK.out _ _ (⟨HT.out.c0, (HT.out.at 0 rfl)⟩) (fun hHeld => ?_)
 clear hK K'
 try simp only [Act.put, p1, p2, p3]
 refine tk 15 (h := ?_)
 refine tk 16 (h := ?_)
 refine rd 17 (h := fun K' hK => ?_)
 go_simp
 go_at_call 118
 by_cases he : e = 0
 ·subst he
  refine (got_yes _ _).mono ?_
  rintro e' W2 ⟨rfl, rfl⟩
  go_wp2_with fail
  refine hK.out _ _ (⟨HT.out.c0, (HT.out.at 0 rfl)⟩) (fun hHeld => ?_)
  clear hK K'
  try simp only [Act.put, p1, p2, p3]
  refine rd 18 (h := fun K' hK => ?_)
  go_simp
  go_at_call 121
  refine (tk_seal g2 HT.out HFi.out).mono ?_
  rintro e' W1 (⟨⟨z, c⟩, ME1, hm, rfl, hT⟩ | ⟨c, ME1, hm, hc, rfl, hT⟩)
  ·have E1 := Lib.hid hm
   have HTold := HT
   replace HT := Lib.hid hT
   clear hm hT
   have HBI := Lib.hid (sealG_i64 HTold.out.facts.2.1 HTold.out.facts.2.2 HTold.out.facts.1 HTold.out.wf E1.out)
   go_wp2_with fail
   refine hK.out _ _ (⟨HT.out.c0, (HT.out.at 0 rfl)⟩) (fun hHeld => ?_)
   clear hK K'
   try simp only [Act.put, p1, p2, p3]
   refine tk 19 (h := ?_)
   refine tk 20 (h := ?_)
   refine tk 21 (h := ?_)
   refine rd 22 (h := fun K' hK => ?_)
   have dst := HT.out.at 15 rfl
   have dfz := HT.out.fz 20
   go_simp
   replace HT := Lib.hid (HT.out.put g2 15 (.int .i64 c))
   clear dst dfz
   refine hK.out _ _ (⟨HT.out.c0, (HT.out.at 0 rfl)⟩) (fun hHeld => ?_)
   clear hK K'
   try simp only [Act.put, p1, p2, p3]
   refine wpAnyH_done (by kernel_rfl) ?_ _
   go_wp2_with fail
   go_end0
   exact .inl ⟨{ s with c1 := c, y := z }, _, by unfold bgSealMe; exact (G.to_ok (putG_ok HF.out)).trans ((G.to_ok E1.out).trans (rfl)), rfl, HT.out, ⟨HO.out.1, HO.out.2.1, HO.out.2.2.1, HBI.out, HO.out.2.2.2.2⟩⟩
  ·unfold Fell
   go_wp2_with fail
   exact ⟨rfl, .inr ⟨_, _, by unfold bgSealMe; exact (G.to_ok (putG_ok HF.out)).trans (G.to_bad hm), hc, rfl, hT⟩⟩
 ·have HE := Lib.hid he
  clear he
  refine (got_no _ _ HE.out _).mono ?_
  rintro e' W2 ⟨rfl, rfl⟩
  unfold Fell
  go_wp2_with fail
  exact ⟨rfl, .inr ⟨_, _, by unfold bgSealMe; exact G.to_bad (putG_no HF.out HE.out), HE.out, rfl, HT.out.fall⟩⟩
set_option maxHeartbeats 1000000 in
theorem bg_mixMe (g2 : Good base Q2) {P : BgP} {s : Begun} (h : Tk base g most Q2 L L2 bs B 129 s.y (P.rest s) w0 w) (ho : BgOk s) (hd : I64 P.a1) :
  Calls Tryz.prog 57 #[.pointer (some ⟨B, 0, none⟩)] w (Gp (bgMixMe P s most L) (fun _ => .tuple #[]) (fun L' x w' => Tk base g most Q2 L' L2 bs B 129 x.y (P.rest x) w0 w' ∧ BgOk x) (fun L' w' => Cs base (PSq base g most) Q2 L' L2 bs w0 w')) := by
 have HT := Lib.hid h
 have HO := Lib.hid ho
 have HHD := Lib.hid hd
 clear h ho hd
 go_enter Tryz.func57, Tryz.ntmps57
 replace HT := Lib.hid (HT.out.drew g2)
 refine wp_region_held_drew (S := (fun W => W.cell? ⟨B, 5, none⟩ = some (.int .i64 P.a1) ∧ W.cell? ⟨B, 7, none⟩ = some (.int .i64 P.p.dh))) (by kernel_rfl) (⟨(HT.out.at 0 rfl), (HT.out.at 2 rfl)⟩) (fun hHeld => ?_)
 refine tk 0 (h := ?_)
 refine tk 1 (h := ?_)
 refine tk 2 (h := ?_)
 refine tk 3 (h := ?_)
 refine tk 4 (h := ?_)
 refine tk 5 (h := ?_)
 refine tk 6 (h := ?_)
 refine tk 7 (hy := fun W hSw => by ((obtain ⟨q5, q7⟩ := hSw; go_simp) <;> with_reducible rfl)) (h := ?_)
 refine tk 8 (h := ?_)
 refine tk 9 (h := ?_)
 refine tk 10 (h := ?_)
 refine tk 11 (h := ?_)
 refine tk 12 (h := ?_)
 refine tk 13 (hy := fun W hSw => by ((obtain ⟨q5, q7⟩ := hSw; go_simp) <;> with_reducible rfl)) (h := ?_)
 refine rd 14 (h := fun K' hK => ?_)
 go_simp
 go_at_call 119
 refine (tk_share g2 HT.out HHD.out).mono ?_
 rintro e' W1 (⟨z, ME1, hm, rfl, hT⟩ | ⟨c, ME1, hm, hc, rfl, hT⟩)
 ·have E1 := Lib.hid hm
  have HTold := HT
  replace HT := Lib.hid hT
  clear hm hT
  go_wp2_with fail
  refine hK.out _ _ (⟨(HT.out.at 0 rfl), (HT.out.at 2 rfl)⟩) (fun hHeld => ?_)
  clear hK K'
  try simp only [Act.put, p1, p2, p3]
  refine wpAnyH_done (by kernel_rfl) ?_ _
  go_wp2_with fail
  go_end0
  exact .inl ⟨{ s with y := z }, _, by unfold bgMixMe; exact (G.to_ok E1.out).trans (rfl), rfl, HT.out, HO.out⟩
 ·unfold Fell
  go_wp2_with fail
  exact ⟨rfl, .inr ⟨_, _, by unfold bgMixMe; exact G.to_bad hm, hc, rfl, hT⟩⟩
set_option maxHeartbeats 1000000 in
theorem bg_sealStamp (g2 : Good base Q2) {P : BgP} {s : Begun} (h : Tk base g most Q2 L L2 bs B 129 s.y (P.rest s) w0 w) (ho : BgOk s) (hs : (P.stamp : Int) ≤ 18446744073709551615) (hz : (Ms.putS P.stamp).size ≤ maxLen) :
  Calls Tryz.prog 59 #[.pointer (some ⟨B, 0, none⟩)] w (Gp (bgStamp P s most L) (fun _ => .tuple #[]) (fun L' x w' => Tk base g most Q2 L' L2 bs B 129 x.y (P.rest x) w0 w' ∧ BgOk x) (fun L' w' => Cs base (PSq base g most) Q2 L' L2 bs w0 w')) := by
 have HT := Lib.hid h
 have HO := Lib.hid ho
 have HHS := Lib.hid hs
 have HHZ := Lib.hid hz
 clear h ho hs hz
 go_enter Tryz.func59, Tryz.ntmps59
 replace HT := Lib.hid (HT.out.drew g2)
 refine wp_region_held_drew (S := (fun W => W.cell? ⟨B, 24, none⟩ = some (.int .u64 P.stamp))) (by kernel_rfl) ((HT.out.at 19 rfl)) (fun hHeld => ?_)
 refine tk 0 (h := ?_)
 refine tk 1 (h := ?_)
 refine tk 2 (h := ?_)
 refine tk 3 (h := ?_)
 refine tk 4 (h := ?_)
 refine tk 5 (h := ?_)
 refine tk 6 (h := ?_)
 refine tk 7 (h := ?_)
 refine tk 8 (h := ?_)
 refine tk 9 (h := ?_)
 refine tk 10 (hy := fun W hSw => by ((have q := hSw; go_simp) <;> with_reducible rfl)) (h := ?_)
 refine rd 11 (h := fun K' hK => ?_)
 go_simp
 go_at_call 124
 refine (Ms.put_any P.stamp _ HHS.out).mono ?_
 rintro e' W1 ⟨rfl, hb⟩
 replace HT := Lib.hid (HT.out.below g2 hb)
 clear hb
 go_wp2_with fail
 refine hK.out _ _ ((HT.out.at 19 rfl)) (fun hHeld => ?_)
 clear hK K'
 try simp only [Act.put, p1, p2, p3]
 refine rd 12 (h := fun K' hK => ?_)
 go_simp
 go_at_call 123
 refine (tk_text g2 HT.out HHZ.out).mono ?_
 rintro e' W1 (⟨a, ME1, hm, rfl, hT⟩ | ⟨c, ME1, hm, hc, rfl, hT⟩)
 ·have E1 := Lib.hid hm
  have HTold := HT
  replace HT := Lib.hid hT
  clear hm hT
  have HPI := Lib.hid (putG_i64 HTold.out.facts.2.1 HTold.out.facts.2.2 E1.out)
  go_wp2_with fail
  refine hK.out _ _ ((HT.out.at 19 rfl)) (fun hHeld => ?_)
  clear hK K'
  try simp only [Act.put, p1, p2, p3]
  refine rd 13 (h := fun K' hK => ?_)
  go_simp
  go_at_call 121
  refine (tk_seal g2 HT.out HPI.out).mono ?_
  rintro e' W1 (⟨⟨z, c⟩, ME2, hm, rfl, hT⟩ | ⟨c, ME2, hm, hc, rfl, hT⟩)
  ·have E2 := Lib.hid hm
   have HTold := HT
   replace HT := Lib.hid hT
   clear hm hT
   have HBI := Lib.hid (sealG_i64 HTold.out.facts.2.1 HTold.out.facts.2.2 HTold.out.facts.1 HTold.out.wf E2.out)
   go_wp2_with fail
   refine hK.out _ _ ((HT.out.at 19 rfl)) (fun hHeld => ?_)
   clear hK K'
   try simp only [Act.put, p1, p2, p3]
   refine tk 14 (h := ?_)
   refine tk 15 (h := ?_)
   refine tk 16 (h := ?_)
   refine rd 17 (h := fun K' hK => ?_)
   have dst := HT.out.at 16 rfl
   have dfz := HT.out.fz 21
   go_simp
   replace HT := Lib.hid (HT.out.put g2 16 (.int .i64 c))
   clear dst dfz
   refine hK.out _ _ ((HT.out.at 19 rfl)) (fun hHeld => ?_)
   clear hK K'
   try simp only [Act.put, p1, p2, p3]
   refine wpAnyH_done (by kernel_rfl) ?_ _
   go_wp2_with fail
   go_end0
   exact .inl ⟨{ s with c2 := c, y := z }, _, by unfold bgStamp; exact (G.to_ok E1.out).trans ((G.to_ok E2.out).trans (rfl)), rfl, HT.out, ⟨HO.out.1, HO.out.2.1, HO.out.2.2.1, HO.out.2.2.2.1, HBI.out⟩⟩
  ·unfold Fell
   go_wp2_with fail
   exact ⟨rfl, .inr ⟨_, _, by unfold bgStamp; exact (G.to_ok E1.out).trans (G.to_bad hm), hc, rfl, hT⟩⟩
 ·unfold Fell
  go_wp2_with fail
  exact ⟨rfl, .inr ⟨_, _, by unfold bgStamp; exact G.to_bad hm, hc, rfl, hT⟩⟩
end
section
variable {base g B : Nat} {most : Int} {Q2 : (Nat → Prop) → List Tm → World → Prop} {L L' L2 : List Tm} {bs : List (Nat × Obj)} {w0 w w' : World}
set_option maxHeartbeats 1000000 in
theorem mustBe_yes (m : Mg) (kind : Int) (w : World) (hm : Ms.Ms.Wf m) (hk : m.i 0 = kind) (hr : Ms.rightM m = true) :
  Calls Tryz.prog 125 #[m.v, .int .i64 kind] w fun e w' => e = .returned (.tuple #[]) ∧ Below w.heap.size w w' := by
 have HM := Lib.hid hm
 have HR := Lib.hid hr
 have hne : (m.i 0 != kind) = false := by simp [hk]
 clear hm hr hk
 simp only [Ms.Ms.v, Ms.Ms.cl]
 go_enter Tryz.func125, Tryz.ntmps125
 go_wp2_with fail
 refine (Ms.right_k m _ HM.out true HR).mono ?_
 rintro e w1 ⟨rfl, hb⟩
 have HB := Lib.hid ((below_alloc w _).trans (hb.mono (by simp)))
 clear hb
 go_wp2_with fail
 go_end0
 exact ⟨rfl, HB.out⟩
set_option maxHeartbeats 1000000 in
theorem mustBe_no (m : Mg) (kind : Int) (w : World) (hm : Ms.Ms.Wf m) (h : ¬ (m.i 0 = kind ∧ Ms.rightM m = true)) :
  Calls Tryz.prog 125 #[m.v, .int .i64 kind] w fun e w' => e = Fell 3 ∧ Below w.heap.size w w' := by
 have HM := Lib.hid hm
 by_cases hk : m.i 0 = kind
 ·have HR : Hid (Ms.rightM m = false) := Lib.hid (by cases hx : Ms.rightM m with | true => exact absurd ⟨hk, hx⟩ h | false => rfl)
  have hne : (m.i 0 != kind) = false := by simp [hk]
  clear hm h hk
  simp only [Ms.Ms.v, Ms.Ms.cl]
  go_enter Tryz.func125, Tryz.ntmps125
  go_wp2_with fail
  refine (Ms.right_k m _ HM.out false HR).mono ?_
  rintro e w1 ⟨rfl, hb⟩
  have HB := Lib.hid ((below_alloc w _).trans (hb.mono (by simp)))
  clear hb
  go_wp2_with fail
  exact ⟨rfl, rfl, HB.out⟩
 ·have hne : (m.i 0 != kind) = true := by simp [hk]
  clear hm h hk
  simp only [Ms.Ms.v, Ms.Ms.cl]
  go_enter Tryz.func125, Tryz.ntmps125
  go_wp2_with fail
  exact ⟨rfl, rfl, below_alloc w _⟩
set_option maxHeartbeats 1000000 in
theorem bg_checkSlot (g2 : Good base Q2) {P : BgP} {s : Begun} (h : Tk base g most Q2 L L2 bs B 129 s.y (P.rest s) w0 w) (ho : BgOk s) :
  Calls Tryz.prog 50 #[.pointer (some ⟨B, 0, none⟩)] w (Gp (bgSlot P s most L) (fun _ => .tuple #[]) (fun L' x w' => Tk base g most Q2 L' L2 bs B 129 x.y (P.rest x) w0 w' ∧ BgOk x ∧ (P.slot = 0 ∨ P.slot = 1)) (fun L' w' => Cs base (PSq base g most) Q2 L' L2 bs w0 w')) := by
 have HT := Lib.hid h
 have HO := Lib.hid ho
 have m4 := h.at 10 rfl
 clear h ho
 by_cases h1 : P.slot < 0
 ·have hl : decide (P.slot < 0) = true := by simpa using h1
  have HG : Hid (bgSlot P s most L = (.error 1, L)) := Lib.hid (by unfold bgSlot; rw [if_neg (by omega)])
  clear h1
  go_enter Tryz.func50, Tryz.ntmps50
  go_wp2_with fail
  exact ⟨rfl, .inr ⟨_, _, HG.out, by decide, rfl, HT.out.fall⟩⟩
 ·have hl : decide (P.slot < 0) = false := by simpa using h1
  by_cases h2 : 2 ≤ P.slot
  ·have hg : decide (2 ≤ P.slot) = true := by simpa using h2
   have HG : Hid (bgSlot P s most L = (.error 1, L)) := Lib.hid (by unfold bgSlot; rw [if_neg (by omega)])
   clear h1 h2
   go_enter Tryz.func50, Tryz.ntmps50
   go_wp2_with fail
   exact ⟨rfl, .inr ⟨_, _, HG.out, by decide, rfl, HT.out.fall⟩⟩
  ·have hg : decide (2 ≤ P.slot) = false := by simpa using h2
   have HS : Hid (P.slot = 0 ∨ P.slot = 1) := Lib.hid (by omega)
   have HG : Hid (bgSlot P s most L = (.ok s, L)) := Lib.hid (by unfold bgSlot; rw [if_pos HS.out])
   clear h1 h2
   go_enter Tryz.func50, Tryz.ntmps50
   go_wp2_with fail
   go_end0
   exact .inl ⟨_, _, HG.out, rfl, HT.out, HO.out, HS.out⟩
set_option maxHeartbeats 1000000 in
theorem bg_check (g2 : Good base Q2) {P : BgP} {s : Begun} (h : Tk base g most Q2 L L2 bs B 129 s.y (P.rest s) w0 w) (ho : BgOk s) (hw : Ms.Ms.Wf (P.m s)) :
  Calls Tryz.prog 60 #[.pointer (some ⟨B, 0, none⟩)] w (Gp (bgCheck P s most L) (fun _ => .tuple #[]) (fun L' x w' => Tk base g most Q2 L' L2 bs B 129 x.y (P.rest x) w0 w' ∧ BgOk x) (fun L' w' => Cs base (PSq base g most) Q2 L' L2 bs w0 w')) := by
 have HT := Lib.hid h
 have HO := Lib.hid ho
 have HHW := Lib.hid hw
 clear h ho hw
 by_cases hc : Ms.rightM (P.m s) = true
 ·have HG : Hid (bgCheck P s most L = (.ok s, L)) := Lib.hid (by unfold bgCheck; rw [if_pos hc])
  have m0 := HT.out.at 6 rfl
  have m1 := HT.out.at 7 rfl
  have m2 := HT.out.at 8 rfl
  have m3 := HT.out.at 9 rfl
  have m4 := HT.out.at 10 rfl
  have m5 := HT.out.at 11 rfl
  have m6 := HT.out.at 12 rfl
  have m7 := HT.out.at 13 rfl
  have m8 := HT.out.at 14 rfl
  have m9 := HT.out.at 15 rfl
  have m10 := HT.out.at 16 rfl
  have m11 := HT.out.at 17 rfl
  have m12 := HT.out.at 18 rfl
  have HC := Lib.hid hc
  clear hc
  go_enter Tryz.func60, Tryz.ntmps60
  go_wp2_with fail
  refine (mustBe_yes (P.m s) 1 _ HHW.out rfl HC.out).mono ?_
  rintro e' w1 ⟨rfl, hb⟩
  replace HT := Lib.hid (HT.out.below g2 hb)
  clear hb
  go_wp2_with fail
  go_end0
  exact .inl ⟨_, _, HG.out, rfl, HT.out, HO.out⟩
 ·have HG : Hid (bgCheck P s most L = (.error 3, L)) := Lib.hid (by unfold bgCheck; rw [if_neg hc])
  have m0 := HT.out.at 6 rfl
  have m1 := HT.out.at 7 rfl
  have m2 := HT.out.at 8 rfl
  have m3 := HT.out.at 9 rfl
  have m4 := HT.out.at 10 rfl
  have m5 := HT.out.at 11 rfl
  have m6 := HT.out.at 12 rfl
  have m7 := HT.out.at 13 rfl
  have m8 := HT.out.at 14 rfl
  have m9 := HT.out.at 15 rfl
  have m10 := HT.out.at 16 rfl
  have m11 := HT.out.at 17 rfl
  have m12 := HT.out.at 18 rfl
  have HC := Lib.hid hc
  clear hc
  go_enter Tryz.func60, Tryz.ntmps60
  go_wp2_with fail
  refine (mustBe_no (P.m s) 1 _ HHW.out (fun q => HC.out q.2)).mono ?_
  rintro e' w1 ⟨rfl, hb⟩
  replace HT := Lib.hid (HT.out.below g2 hb)
  clear hb
  unfold Fell
  go_wp2_with fail
  exact ⟨rfl, .inr ⟨_, _, HG.out, by decide, rfl, HT.out.fall⟩⟩
set_option maxHeartbeats 1000000 in
theorem bg_mixPsk (g2 : Good base Q2) {P : BgP} {s : Begun} (h : Tk base g most Q2 L L2 bs B 129 s.y (P.rest s) w0 w) (ho : BgOk s) (hs : P.slot = 0 ∨ P.slot = 1) (hk : I64 P.p.k0 ∧ I64 P.p.k1) :
  Calls Tryz.prog 58 #[.pointer (some ⟨B, 0, none⟩)] w (Gp (bgPsk P s most L) (fun _ => .tuple #[]) (fun L' x w' => Tk base g most Q2 L' L2 bs B 129 x.y (P.rest x) w0 w' ∧ BgOk x) (fun L' w' => Cs base (PSq base g most) Q2 L' L2 bs w0 w')) := by
 have HT := Lib.hid h
 have HO := Lib.hid ho
 have HHS := Lib.hid hs
 have HHK := Lib.hid hk
 clear h ho hs hk
 rcases HHS.out with q | q
 ·have HSL : Hid (P.slot = 0) := Lib.hid q
  have HGE : Hid (bgPsk P s most L = ((turnG s.y P.p.k0).to fun y => .of { s with y := y }) most L) := Lib.hid (by unfold bgPsk; rw [q]; rfl)
  clear q
  go_enter Tryz.func58, Tryz.ntmps58
  replace HT := Lib.hid (HT.out.drew g2)
  refine wp_region_held_drew (S := (fun W => W.cell? ⟨B, 15, none⟩ = some (.int .i64 0) ∧ W.cell? ⟨B, 9, none⟩ = some (.int .i64 P.p.k0))) (by kernel_rfl) (⟨(HT.out.at 10 rfl).trans (by rw [HSL.out]), HT.out.at 4 rfl⟩) (fun hHeld => ?_)
  refine tk 0 (h := ?_)
  refine tk 1 (h := ?_)
  refine tk 2 (h := ?_)
  refine tk 3 (h := ?_)
  refine tk 4 (h := ?_)
  refine tk 5 (h := ?_)
  refine tk 6 (h := ?_)
  refine tk 7 (h := ?_)
  refine tk 8 (hy := fun W hSw => by ((obtain ⟨q15, q9⟩ := hSw; go_simp) <;> with_reducible rfl)) (h := ?_)
  refine tk 9 (h := ?_)
  refine tk 10 (h := ?_)
  refine tk 11 (h := ?_)
  refine tk 12 (h := ?_)
  refine tk 13 (hy := fun W hSw => by ((obtain ⟨q15, q9⟩ := hSw; go_simp) <;> with_reducible rfl)) (h := ?_)
  refine rd 14 (h := fun K' hK => ?_)
  go_simp
  go_at_call 122
  refine (tk_mix g2 HT.out HHK.out.1).mono ?_
  rintro e' W1 (⟨z, ME1, hm, rfl, hT⟩ | ⟨c, ME1, hm, hc, rfl, hT⟩)
  ·have E1 := Lib.hid hm
   have HTold := HT
   replace HT := Lib.hid hT
   clear hm hT
   go_wp2_with fail
   refine hK.out _ _ (⟨(HT.out.at 10 rfl).trans (by rw [HSL.out]), HT.out.at 4 rfl⟩) (fun hHeld => ?_)
   clear hK K'
   try simp only [Act.put, p1, p2, p3]
   refine wpAnyH_done (by kernel_rfl) ?_ _
   go_wp2_with fail
   go_end0
   exact .inl ⟨{ s with y := z }, _, (HGE.out).trans ((G.to_ok E1.out).trans (rfl)), rfl, HT.out, HO.out⟩
  ·unfold Fell
   go_wp2_with fail
   exact ⟨rfl, .inr ⟨_, _, (HGE.out).trans (G.to_bad hm), hc, rfl, hT⟩⟩
 ·have HSL : Hid (P.slot = 1) := Lib.hid q
  have HGE : Hid (bgPsk P s most L = ((turnG s.y P.p.k1).to fun y => .of { s with y := y }) most L) := Lib.hid (by unfold bgPsk; rw [q]; rfl)
  clear q
  go_enter Tryz.func58, Tryz.ntmps58
  replace HT := Lib.hid (HT.out.drew g2)
  refine wp_region_held_drew (S := (fun W => W.cell? ⟨B, 15, none⟩ = some (.int .i64 1) ∧ W.cell? ⟨B, 10, none⟩ = some (.int .i64 P.p.k1))) (by kernel_rfl) (⟨(HT.out.at 10 rfl).trans (by rw [HSL.out]), HT.out.at 5 rfl⟩) (fun hHeld => ?_)
  refine tk 0 (h := ?_)
  refine tk 1 (h := ?_)
  refine tk 2 (h := ?_)
  refine tk 3 (h := ?_)
  refine tk 4 (h := ?_)
  refine tk 5 (h := ?_)
  refine tk 6 (h := ?_)
  refine tk 7 (h := ?_)
  refine tk 8 (hy := fun W hSw => by ((obtain ⟨q15, q9⟩ := hSw; go_simp) <;> with_reducible rfl)) (h := ?_)
  refine tk 9 (h := ?_)
  refine tk 10 (h := ?_)
  refine tk 11 (h := ?_)
  refine tk 12 (h := ?_)
  refine tk 13 (hy := fun W hSw => by ((obtain ⟨q15, q9⟩ := hSw; go_simp) <;> with_reducible rfl)) (h := ?_)
  refine rd 14 (h := fun K' hK => ?_)
  go_simp
  go_at_call 122
  refine (tk_mix g2 HT.out HHK.out.2).mono ?_
  rintro e' W1 (⟨z, ME1, hm, rfl, hT⟩ | ⟨c, ME1, hm, hc, rfl, hT⟩)
  ·have E1 := Lib.hid hm
   have HTold := HT
   replace HT := Lib.hid hT
   clear hm hT
   go_wp2_with fail
   refine hK.out _ _ (⟨(HT.out.at 10 rfl).trans (by rw [HSL.out]), HT.out.at 5 rfl⟩) (fun hHeld => ?_)
   clear hK K'
   try simp only [Act.put, p1, p2, p3]
   refine wpAnyH_done (by kernel_rfl) ?_ _
   go_wp2_with fail
   go_end0
   exact .inl ⟨{ s with y := z }, _, (HGE.out).trans ((G.to_ok E1.out).trans (rfl)), rfl, HT.out, HO.out⟩
  ·unfold Fell
   go_wp2_with fail
   exact ⟨rfl, .inr ⟨_, _, (HGE.out).trans (G.to_bad hm), hc, rfl, hT⟩⟩
end
section
variable {base g : Nat} {most : Int} {Q2 : (Nat → Prop) → List Tm → World → Prop} {L L' L2 : List Tm} {bs : List (Nat × Obj)} {w0 w : World}
theorem Cs.two (g1 : Good base (PSq base g most)) (g2 : Good base Q2) (h : Cs base (PSq base g most) Q2 L L2 bs w0 w) (cs ds : Array Value) (t u : TypeId) :
  Cs base (PSq base g most) Q2 L L2 ((w.heap.size + 1, (.cells ds u (0, 0) : Obj)) :: (w.heap.size, (.cells cs t (0, 0) : Obj)) :: bs) w0 ((w.alloc (.cells cs t : Obj)).alloc (.cells ds u : Obj)) := by
 have h1 := (h.box g1 g2 cs t).box g1 g2 ds u
 have e : (w.alloc (.cells cs t : Obj)).heap.size = w.heap.size + 1 := by simp
 rw [e] at h1
 exact h1
theorem Cs.leave {b : Nat} {o1 o2 : Obj} {w' : World} (g2 : Good base Q2) (h : Cs base (PSq base g most) Q2 L L2 ((b + 1, o2) :: (b, o1) :: bs) w0 w) (hb : base ≤ b) (hn : ∀ o, (b + 1, o) ∉ bs) (hc : Chg (· = b + 1) w w') : Cs base (PSq base g most) Q2 L L2 bs w0 w' := by
 refine h.set (PSq.good base g most) g2 (· = b + 1) (fun k q => ?_) hc (fun x q => ⟨List.mem_cons_of_mem _ (List.mem_cons_of_mem _ q), fun e => hn x.2 ?_⟩)
 ·subst q
  exact ⟨by omega, o2, by simp⟩
 ·rw [← show x.1 = b + 1 from e]
  exact q
set_option maxHeartbeats 1000000 in
theorem Cs.hpub (g2 : Good base Q2) (h : Cs base (PSq base g most) Q2 L L2 bs w0 w) {x y a b e : Int} (hx : I64 x) (hy : I64 y) (hf : hPublics most L (x, y) = ((a, b), e, L')) :
  Calls Tryz.prog 14 #[.pointer (some ⟨g, 0, none⟩), .agg #[.int .i64 x, .int .i64 y]] w fun e' w' => e' = .returned (.tuple #[.agg #[.int .i64 a, .int .i64 b], .int .i64 e]) ∧ Cs base (PSq base g most) Q2 L' L2 bs w0 w' := by
 have gP := PSq.good base g most
 have HB := Lib.hid h.pair.base_le
 have HN : Hid (∀ o, (w.heap.size + 1, o) ∉ bs) := Lib.hid (fun o q => by have := h.pair.klt _ ⟨o, q⟩; omega)
 have HC := Lib.hid (h.two gP g2 #[.int .i64 x, .int .i64 y] #[.int .i64 0, .int .i64 0] 33 33)
 have HX := Lib.hid hx
 have HY := Lib.hid hy
 obtain ⟨p, e1, L1, h1⟩ : ∃ a e M, putF L most (pubT x) = (a, e, M) := ⟨_, _, _, rfl⟩
 have H1 := Lib.hid h1
 have HS1 := Lib.hid (put_sd h.sound h1)
 clear h hx hy
 by_cases hz : e1 = 0
 ·subst hz
  obtain ⟨q, e2, L2', h2⟩ : ∃ a e M, putF L1 most (kpubT y) = (a, e, M) := ⟨_, _, _, rfl⟩
  have H2 := Lib.hid h2
  have HS2 := Lib.hid (put_sd HS1.out h2)
  by_cases hz2 : e2 = 0
  ·subst hz2
   have hw : hPublics most L (x, y) = ((p, q), 0, L2') := by
    unfold hPublics publicsG
    rw [G.to_ok (putG_ok h1), G.to_ok (putG_ok h2)]
    rfl
   rw [hw] at hf
   injection hf with q1 q2
   injection q1 with q3 q4
   injection q2 with q5 q6
   subst q3 q4 q5 q6
   clear hw h1 h2
   have r0 := cell_of_row _ _ 0 _ _ _ (HC.out.kept w.heap.size _ (List.mem_cons_of_mem _ List.mem_cons_self))
   go_enter Tryz.func14, Tryz.ntmps14
   go_wp2_with fail
   refine (HC.out.pair.publicP g2 HX.out H1.out).mono ?_
   rintro e' w1 ⟨rfl, hp, hk⟩
   replace HC := Lib.hid (HC.out.step hp hk HS1.out)
   clear hp hk
   have r1 := cell_of_row w1 _ 1 _ _ _ (HC.out.kept w.heap.size _ (List.mem_cons_of_mem _ List.mem_cons_self))
   simp at r1
   go_wp2_with fail
   refine (HC.out.pair.kpublicP g2 HY.out H2.out).mono ?_
   rintro e' w2 ⟨rfl, hp, hk⟩
   replace HC := Lib.hid (HC.out.step hp hk HS2.out)
   clear hp hk r1
   have z0 := cell_of_row w2 _ 0 _ _ _ (HC.out.kept (w.heap.size + 1) _ List.mem_cons_self)
   have z1 := cell_of_row w2 _ 1 _ _ _ (HC.out.kept (w.heap.size + 1) _ List.mem_cons_self)
   have f0 := frz_of_row 0 (HC.out.kept (w.heap.size + 1) _ List.mem_cons_self)
   have f1 := frz_of_row 1 (HC.out.kept (w.heap.size + 1) _ List.mem_cons_self)
   simp at z0 z1
   go_wp2_with fail
   exact bodyPost_ret (v := .tuple #[.agg #[.int .i64 p, .int .i64 q], .int .i64 0]) (by simp [results, Tryz.results14, go_sem, z0, z1]) rfl ⟨rfl, HC.out.leave g2 HB.out HN.out ((chg_one _ _ _ _).trans (chg_one _ _ _ _))⟩
  ·have hne : (e2 != 0) = true := by simpa using hz2
   have hw : hPublics most L (x, y) = ((0, 0), e2, L2') := by
    unfold hPublics publicsG
    rw [G.to_ok (putG_ok h1), G.to_bad (putG_no h2 hz2)]
   rw [hw] at hf
   injection hf with q1 q2
   injection q1 with q3 q4
   injection q2 with q5 q6
   subst q3 q4 q5 q6
   clear hw h1 h2 hz2
   go_enter Tryz.func14, Tryz.ntmps14
   go_wp2_with fail
   refine (HC.out.pair.publicP g2 HX.out H1.out).mono ?_
   rintro e' w1 ⟨rfl, hp, hk⟩
   replace HC := Lib.hid (HC.out.step hp hk HS1.out)
   clear hp hk
   have r1 := cell_of_row w1 _ 1 _ _ _ (HC.out.kept w.heap.size _ (List.mem_cons_of_mem _ List.mem_cons_self))
   simp at r1
   go_wp2_with fail
   refine (HC.out.pair.kpublicP g2 HY.out H2.out).mono ?_
   rintro e' w2 ⟨rfl, hp, hk⟩
   replace HC := Lib.hid (HC.out.step hp hk HS2.out)
   clear hp hk r1
   have z0 := cell_of_row w2 _ 0 _ _ _ (HC.out.kept (w.heap.size + 1) _ List.mem_cons_self)
   have z1 := cell_of_row w2 _ 1 _ _ _ (HC.out.kept (w.heap.size + 1) _ List.mem_cons_self)
   have f0 := frz_of_row 0 (HC.out.kept (w.heap.size + 1) _ List.mem_cons_self)
   have f1 := frz_of_row 1 (HC.out.kept (w.heap.size + 1) _ List.mem_cons_self)
   simp at z0 z1
   go_wp2_with fail
   exact bodyPost_ret (v := .tuple #[.agg #[.int .i64 0, .int .i64 0], .int .i64 e2]) (by simp [results, Tryz.results14, go_sem, z0, z1]) rfl ⟨rfl, HC.out.leave g2 HB.out HN.out ((chg_one _ _ _ _).trans (chg_one _ _ _ _))⟩
 ·have hne : (e1 != 0) = true := by simpa using hz
  have hw : hPublics most L (x, y) = ((0, 0), e1, L1) := by
   unfold hPublics publicsG
   rw [G.to_bad (putG_no h1 hz)]
  rw [hw] at hf
  injection hf with q1 q2
  injection q1 with q3 q4
  injection q2 with q5 q6
  subst q3 q4 q5 q6
  clear hw h1 hz
  go_enter Tryz.func14, Tryz.ntmps14
  go_wp2_with fail
  refine (HC.out.pair.publicP g2 HX.out H1.out).mono ?_
  rintro e' w1 ⟨rfl, hp, hk⟩
  replace HC := Lib.hid (HC.out.step hp hk HS1.out)
  clear hp hk
  have z0 := cell_of_row w1 _ 0 _ _ _ (HC.out.kept (w.heap.size + 1) _ List.mem_cons_self)
  have z1 := cell_of_row w1 _ 1 _ _ _ (HC.out.kept (w.heap.size + 1) _ List.mem_cons_self)
  have f0 := frz_of_row 0 (HC.out.kept (w.heap.size + 1) _ List.mem_cons_self)
  have f1 := frz_of_row 1 (HC.out.kept (w.heap.size + 1) _ List.mem_cons_self)
  simp at z0 z1
  go_wp2_with fail
  exact bodyPost_ret (v := .tuple #[.agg #[.int .i64 0, .int .i64 0], .int .i64 e1]) (by simp [results, Tryz.results14, go_sem, z0, z1]) rfl ⟨rfl, HC.out.leave g2 HB.out HN.out ((chg_one _ _ _ _).trans (chg_one _ _ _ _))⟩
end
end Go.Proofs.YtgeonppckeiceaaGreatDoor
