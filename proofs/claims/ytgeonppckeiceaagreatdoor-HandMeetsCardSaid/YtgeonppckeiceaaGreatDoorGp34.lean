/- The steps of Answer (by tools/stage17/steps.py). -/
import Derived.Test.YtgeonppckeiceaaGreatDoorGp33
namespace Go.Proofs.YtgeonppckeiceaaGreatDoor
open Go.RowKit
set_option linter.unusedVariables false
set_option linter.unusedSimpArgs false
set_option maxRecDepth 20000
theorem Tk.cl {base g B : Nat} {most : Int} {Q2 : (Nat → Prop) → List Tm → World → Prop} {L L2 : List Tm} {bs : List (Nat × Obj)} {T : TypeId} {y : Sy} {rest : List Value} {w0 w : World} (h : Tk base g most Q2 L L2 bs B T y rest w0 w) (o : Nat) (ho : 5 ≤ o) {v : Value} (hv : rest[o - 5]? = some v) : w.cell? ⟨B, o, none⟩ = some v := by
  have := h.at (o - 5) hv
  rwa [show o - 5 + 5 = o by omega] at this
section
variable {base g B : Nat} {most : Int} {Q2 : (Nat → Prop) → List Tm → World → Prop} {L L' L2 : List Tm} {bs : List (Nat × Obj)} {w0 w w' : World}
set_option maxHeartbeats 1000000 in
theorem an_sayE (g2 : Good base Q2) {P : AnP} {s : AnS} (h : Tk base g most Q2 L L2 bs B 147 s.y (P.rest s) w0 w) (ho : AnOk s) (hd : I64 P.d0) :
    Calls Tryz.prog 87 #[.pointer (some ⟨B, 0, none⟩)] w (Gp (anE P s most L) (fun _ => .tuple #[]) (fun L' x w' => Tk base g most Q2 L' L2 bs B 147 x.y (P.rest x) w0 w' ∧ AnOk x) (fun L' w' => Cs base (PSq base g most) Q2 L' L2 bs w0 w')) := by
  have HT := Lib.hid h
  have HO := Lib.hid ho
  have HHD := Lib.hid hd
  clear h ho hd
  go_enter Tryz.func87, Tryz.ntmps87
  replace HT := Lib.hid (HT.out.drew g2)
  refine wp_region_held_drew (S := (fun W => W.cell? ⟨B, 0, none⟩ = some (.pointer (some ⟨g, 0, none⟩)) ∧ W.cell? ⟨B, 28, none⟩ = some (.int .i64 P.d0))) (by kernel_rfl) (⟨HT.out.c0, (HT.out.at 23 rfl)⟩) (fun hHeld => ?_)
  refine tk1 0 (oi := ?o414) (v := ?v414) ?i414 ?w414 ?y414 ?r414
  case' i414 => simp only [g1, g2, g3]
  case i414 => rfl
  case w414 => kernel_rfl
  case y414 => (intro W hSw; go_simp) <;> with_reducible rfl
  try simp only [Act.put, p1, p2, p3]
  refine tk1 1 (oi := ?o415) (v := ?v415) ?i415 ?w415 ?y415 ?r415
  case' i415 => simp only [g1, g2, g3]
  case i415 => rfl
  case w415 => kernel_rfl
  case y415 => (intro W hSw; go_simp) <;> with_reducible rfl
  try simp only [Act.put, p1, p2, p3]
  refine tk1 2 (oi := ?o416) (v := ?v416) ?i416 ?w416 ?y416 ?r416
  case' i416 => simp only [g1, g2, g3]
  case i416 => rfl
  case w416 => kernel_rfl
  case y416 => (intro W hSw; go_simp) <;> with_reducible rfl
  try simp only [Act.put, p1, p2, p3]
  refine tk1 3 (oi := ?o417) (v := ?v417) ?i417 ?w417 ?y417 ?r417
  case' i417 => simp only [g1, g2, g3]
  case i417 => rfl
  case w417 => kernel_rfl
  case y417 => (intro W hSw; go_simp) <;> with_reducible rfl
  try simp only [Act.put, p1, p2, p3]
  refine tk1 4 (oi := ?o418) (v := ?v418) ?i418 ?w418 ?y418 ?r418
  case' i418 => simp only [g1, g2, g3]
  case i418 => rfl
  case w418 => kernel_rfl
  case y418 => (intro W hSw; go_simp) <;> with_reducible rfl
  try simp only [Act.put, p1, p2, p3]
  refine tk1 5 (oi := ?o419) (v := ?v419) ?i419 ?w419 ?y419 ?r419
  case' i419 => simp only [g1, g2, g3]
  case i419 => rfl
  case w419 => kernel_rfl
  case y419 => (intro W hSw; go_simp) <;> with_reducible rfl
  try simp only [Act.put, p1, p2, p3]
  refine tk1 6 (oi := ?o420) (v := ?v420) ?i420 ?w420 ?y420 ?r420
  case' i420 => simp only [g1, g2, g3]
  case i420 => rfl
  case w420 => kernel_rfl
  case y420 => (intro W hSw; go_simp) <;> with_reducible rfl
  try simp only [Act.put, p1, p2, p3]
  refine tk1 7 (oi := ?o421) (v := ?v421) ?i421 ?w421 ?y421 ?r421
  case' i421 => simp only [g1, g2, g3]
  case i421 => rfl
  case w421 => kernel_rfl
  case y421 => (intro W hSw; go_simp) <;> with_reducible rfl
  try simp only [Act.put, p1, p2, p3]
  refine tk1 8 (oi := ?o422) (v := ?v422) ?i422 ?w422 ?y422 ?r422
  case' i422 => simp only [g1, g2, g3]
  case i422 => rfl
  case w422 => kernel_rfl
  case y422 => (intro W hSw; obtain ⟨q0, q28⟩ := hSw; go_simp) <;> with_reducible rfl
  try simp only [Act.put, p1, p2, p3]
  refine tk1 9 (oi := ?o423) (v := ?v423) ?i423 ?w423 ?y423 ?r423
  case' i423 => simp only [g1, g2, g3]
  case i423 => rfl
  case w423 => kernel_rfl
  case y423 => (intro W hSw; go_simp) <;> with_reducible rfl
  try simp only [Act.put, p1, p2, p3]
  refine tk1 10 (oi := ?o424) (v := ?v424) ?i424 ?w424 ?y424 ?r424
  case' i424 => simp only [g1, g2, g3]
  case i424 => rfl
  case w424 => kernel_rfl
  case y424 => (intro W hSw; go_simp) <;> with_reducible rfl
  try simp only [Act.put, p1, p2, p3]
  refine tk1 11 (oi := ?o425) (v := ?v425) ?i425 ?w425 ?y425 ?r425
  case' i425 => simp only [g1, g2, g3]
  case i425 => rfl
  case w425 => kernel_rfl
  case y425 => (intro W hSw; go_simp) <;> with_reducible rfl
  try simp only [Act.put, p1, p2, p3]
  refine tk1 12 (oi := ?o426) (v := ?v426) ?i426 ?w426 ?y426 ?r426
  case' i426 => simp only [g1, g2, g3]
  case i426 => rfl
  case w426 => kernel_rfl
  case y426 => (intro W hSw; go_simp) <;> with_reducible rfl
  try simp only [Act.put, p1, p2, p3]
  refine tk1 13 (oi := ?o427) (v := ?v427) ?i427 ?w427 ?y427 ?r427
  case' i427 => simp only [g1, g2, g3]
  case i427 => rfl
  case w427 => kernel_rfl
  case y427 => (intro W hSw; obtain ⟨q0, q28⟩ := hSw; go_simp) <;> with_reducible rfl
  try simp only [Act.put, p1, p2, p3]
  refine wpAnyH_ready (rs := [14]) (by kernel_rfl) (by simp) ?_
  refine (AllReadyH.cons (o := ?o428_0) ?i428_0 (fun K' hK => ?g428_0) AllReadyH.nil)
  case' i428_0 => simp only [g1, g2, g3]
  case i428_0 => rfl
  obtain ⟨a, e, MHF, hf⟩ : ∃ a e MHF, putF L most (pubT P.d0) = (a, e, MHF) := ⟨_, _, _, rfl⟩
  have HF := Lib.hid hf
  have HFs := Lib.hid (put_sd HT.out.cs.sound hf)
  have HFi := Lib.hid (name_i64 HT.out.facts.2.1 HT.out.facts.2.2 hf)
  clear hf
  go_simp
  go_at_call 46
  refine (HT.out.cs.pair.publicP g2 HHD.out HF.out).mono ?_
  rintro e' W1 ⟨rfl, hp, hk⟩
  replace HT := Lib.hid (HT.out.step hp hk HFs.out)
  clear hp hk
  go_wp2_with fail
  refine hK.out _ _ (⟨HT.out.c0, (HT.out.at 23 rfl)⟩) (fun hHeld => ?_)
  clear hK K'
  try simp only [Act.put, p1, p2, p3]
  refine tk1 15 (oi := ?o429) (v := ?v429) ?i429 ?w429 ?y429 ?r429
  case' i429 => simp only [g1, g2, g3]
  case i429 => rfl
  case w429 => kernel_rfl
  case y429 => (intro W hSw; go_simp) <;> with_reducible rfl
  try simp only [Act.put, p1, p2, p3]
  refine tk1 16 (oi := ?o430) (v := ?v430) ?i430 ?w430 ?y430 ?r430
  case' i430 => simp only [g1, g2, g3]
  case i430 => rfl
  case w430 => kernel_rfl
  case y430 => (intro W hSw; go_simp) <;> with_reducible rfl
  try simp only [Act.put, p1, p2, p3]
  refine wpAnyH_ready (rs := [17]) (by kernel_rfl) (by simp) ?_
  refine (AllReadyH.cons (o := ?o431_0) ?i431_0 (fun K' hK => ?g431_0) AllReadyH.nil)
  case' i431_0 => simp only [g1, g2, g3]
  case i431_0 => rfl
  go_simp
  go_at_call 118
  by_cases he : e = 0
  · subst he
    refine (got_yes _ _).mono ?_
    rintro e' W2 ⟨rfl, rfl⟩
    go_wp2_with fail
    refine hK.out _ _ (⟨HT.out.c0, (HT.out.at 23 rfl)⟩) (fun hHeld => ?_)
    clear hK K'
    try simp only [Act.put, p1, p2, p3]
    refine wpAnyH_ready (rs := [18]) (by kernel_rfl) (by simp) ?_
    refine (AllReadyH.cons (o := ?o432_0) ?i432_0 (fun K' hK => ?g432_0) AllReadyH.nil)
    case' i432_0 => simp only [g1, g2, g3]
    case i432_0 => rfl
    go_simp
    go_at_call 117
    refine (tk_say g2 HT.out HFi.out).mono ?_
    rintro e' W1 (⟨z, ME1, hm, rfl, hT⟩ | ⟨c, ME1, hm, hc, rfl, hT⟩)
    · have E1 := Lib.hid hm
      have HTold := HT
      replace HT := Lib.hid hT
      clear hm hT
      go_wp2_with fail
      refine hK.out _ _ (⟨HT.out.c0, (HT.out.at 23 rfl)⟩) (fun hHeld => ?_)
      clear hK K'
      try simp only [Act.put, p1, p2, p3]
      refine tk1 19 (oi := ?o433) (v := ?v433) ?i433 ?w433 ?y433 ?r433
      case' i433 => simp only [g1, g2, g3]
      case i433 => rfl
      case w433 => kernel_rfl
      case y433 => (intro W hSw; go_simp) <;> with_reducible rfl
      try simp only [Act.put, p1, p2, p3]
      refine tk1 20 (oi := ?o434) (v := ?v434) ?i434 ?w434 ?y434 ?r434
      case' i434 => simp only [g1, g2, g3]
      case i434 => rfl
      case w434 => kernel_rfl
      case y434 => (intro W hSw; go_simp) <;> with_reducible rfl
      try simp only [Act.put, p1, p2, p3]
      refine tk1 21 (oi := ?o435) (v := ?v435) ?i435 ?w435 ?y435 ?r435
      case' i435 => simp only [g1, g2, g3]
      case i435 => rfl
      case w435 => kernel_rfl
      case y435 => (intro W hSw; go_simp) <;> with_reducible rfl
      try simp only [Act.put, p1, p2, p3]
      refine wpAnyH_ready (rs := [22]) (by kernel_rfl) (by simp) ?_
      refine (AllReadyH.cons (o := ?o436_0) ?i436_0 (fun K' hK => ?g436_0) AllReadyH.nil)
      case' i436_0 => simp only [g1, g2, g3]
      case i436_0 => rfl
      have dst := HT.out.at 16 rfl
      have dfz := HT.out.fz 21
      go_simp
      replace HT := Lib.hid (HT.out.put g2 16 (.int .i64 a))
      clear dst dfz
      refine hK.out _ _ (⟨HT.out.c0, (HT.out.at 23 rfl)⟩) (fun hHeld => ?_)
      clear hK K'
      try simp only [Act.put, p1, p2, p3]
      refine wpAnyH_done (by kernel_rfl) ?_ _
      go_wp2_with fail
      go_end0
      exact .inl ⟨{ s with e := a, y := z }, _, by unfold anE; exact (G.to_ok (putG_ok HF.out)).trans ((G.to_ok E1.out).trans (rfl)), rfl, HT.out, ⟨HFi.out, HO.out.2⟩⟩
    · unfold Fell
      go_wp2_with fail
      exact ⟨rfl, .inr ⟨_, _, by unfold anE; exact (G.to_ok (putG_ok HF.out)).trans (G.to_bad hm), hc, rfl, hT⟩⟩
  · have HE := Lib.hid he
    clear he
    refine (got_no _ _ HE.out _).mono ?_
    rintro e' W2 ⟨rfl, rfl⟩
    unfold Fell
    go_wp2_with fail
    exact ⟨rfl, .inr ⟨_, _, by unfold anE; exact G.to_bad (putG_no HF.out HE.out), HE.out, rfl, HT.out.fall⟩⟩
set_option maxHeartbeats 1000000 in
theorem an_mixE (g2 : Good base Q2) {P : AnP} {s : AnS} (h : Tk base g most Q2 L L2 bs B 147 s.y (P.rest s) w0 w) (ho : AnOk s) (hd : I64 P.d0) :
    Calls Tryz.prog 88 #[.pointer (some ⟨B, 0, none⟩)] w (Gp (anMixE P s most L) (fun _ => .tuple #[]) (fun L' x w' => Tk base g most Q2 L' L2 bs B 147 x.y (P.rest x) w0 w' ∧ AnOk x) (fun L' w' => Cs base (PSq base g most) Q2 L' L2 bs w0 w')) := by
  have HT := Lib.hid h
  have HO := Lib.hid ho
  have HHD := Lib.hid hd
  clear h ho hd
  go_enter Tryz.func88, Tryz.ntmps88
  replace HT := Lib.hid (HT.out.drew g2)
  refine wp_region_held_drew (S := (fun W => W.cell? ⟨B, 28, none⟩ = some (.int .i64 P.d0) ∧ W.cell? ⟨B, 12, none⟩ = some (.int .i64 P.o.e))) (by kernel_rfl) (⟨(HT.out.at 23 rfl), (HT.out.at 7 rfl)⟩) (fun hHeld => ?_)
  refine tk1 0 (oi := ?o437) (v := ?v437) ?i437 ?w437 ?y437 ?r437
  case' i437 => simp only [g1, g2, g3]
  case i437 => rfl
  case w437 => kernel_rfl
  case y437 => (intro W hSw; go_simp) <;> with_reducible rfl
  try simp only [Act.put, p1, p2, p3]
  refine tk1 1 (oi := ?o438) (v := ?v438) ?i438 ?w438 ?y438 ?r438
  case' i438 => simp only [g1, g2, g3]
  case i438 => rfl
  case w438 => kernel_rfl
  case y438 => (intro W hSw; go_simp) <;> with_reducible rfl
  try simp only [Act.put, p1, p2, p3]
  refine tk1 2 (oi := ?o439) (v := ?v439) ?i439 ?w439 ?y439 ?r439
  case' i439 => simp only [g1, g2, g3]
  case i439 => rfl
  case w439 => kernel_rfl
  case y439 => (intro W hSw; go_simp) <;> with_reducible rfl
  try simp only [Act.put, p1, p2, p3]
  refine tk1 3 (oi := ?o440) (v := ?v440) ?i440 ?w440 ?y440 ?r440
  case' i440 => simp only [g1, g2, g3]
  case i440 => rfl
  case w440 => kernel_rfl
  case y440 => (intro W hSw; go_simp) <;> with_reducible rfl
  try simp only [Act.put, p1, p2, p3]
  refine tk1 4 (oi := ?o441) (v := ?v441) ?i441 ?w441 ?y441 ?r441
  case' i441 => simp only [g1, g2, g3]
  case i441 => rfl
  case w441 => kernel_rfl
  case y441 => (intro W hSw; go_simp) <;> with_reducible rfl
  try simp only [Act.put, p1, p2, p3]
  refine tk1 5 (oi := ?o442) (v := ?v442) ?i442 ?w442 ?y442 ?r442
  case' i442 => simp only [g1, g2, g3]
  case i442 => rfl
  case w442 => kernel_rfl
  case y442 => (intro W hSw; go_simp) <;> with_reducible rfl
  try simp only [Act.put, p1, p2, p3]
  refine tk1 6 (oi := ?o443) (v := ?v443) ?i443 ?w443 ?y443 ?r443
  case' i443 => simp only [g1, g2, g3]
  case i443 => rfl
  case w443 => kernel_rfl
  case y443 => (intro W hSw; go_simp) <;> with_reducible rfl
  try simp only [Act.put, p1, p2, p3]
  refine tk1 7 (oi := ?o444) (v := ?v444) ?i444 ?w444 ?y444 ?r444
  case' i444 => simp only [g1, g2, g3]
  case i444 => rfl
  case w444 => kernel_rfl
  case y444 => (intro W hSw; obtain ⟨q28, q12⟩ := hSw; go_simp) <;> with_reducible rfl
  try simp only [Act.put, p1, p2, p3]
  refine tk1 8 (oi := ?o445) (v := ?v445) ?i445 ?w445 ?y445 ?r445
  case' i445 => simp only [g1, g2, g3]
  case i445 => rfl
  case w445 => kernel_rfl
  case y445 => (intro W hSw; go_simp) <;> with_reducible rfl
  try simp only [Act.put, p1, p2, p3]
  refine tk1 9 (oi := ?o446) (v := ?v446) ?i446 ?w446 ?y446 ?r446
  case' i446 => simp only [g1, g2, g3]
  case i446 => rfl
  case w446 => kernel_rfl
  case y446 => (intro W hSw; go_simp) <;> with_reducible rfl
  try simp only [Act.put, p1, p2, p3]
  refine tk1 10 (oi := ?o447) (v := ?v447) ?i447 ?w447 ?y447 ?r447
  case' i447 => simp only [g1, g2, g3]
  case i447 => rfl
  case w447 => kernel_rfl
  case y447 => (intro W hSw; go_simp) <;> with_reducible rfl
  try simp only [Act.put, p1, p2, p3]
  refine tk1 11 (oi := ?o448) (v := ?v448) ?i448 ?w448 ?y448 ?r448
  case' i448 => simp only [g1, g2, g3]
  case i448 => rfl
  case w448 => kernel_rfl
  case y448 => (intro W hSw; go_simp) <;> with_reducible rfl
  try simp only [Act.put, p1, p2, p3]
  refine tk1 12 (oi := ?o449) (v := ?v449) ?i449 ?w449 ?y449 ?r449
  case' i449 => simp only [g1, g2, g3]
  case i449 => rfl
  case w449 => kernel_rfl
  case y449 => (intro W hSw; obtain ⟨q28, q12⟩ := hSw; go_simp) <;> with_reducible rfl
  try simp only [Act.put, p1, p2, p3]
  refine wpAnyH_ready (rs := [13]) (by kernel_rfl) (by simp) ?_
  refine (AllReadyH.cons (o := ?o450_0) ?i450_0 (fun K' hK => ?g450_0) AllReadyH.nil)
  case' i450_0 => simp only [g1, g2, g3]
  case i450_0 => rfl
  go_simp
  go_at_call 119
  refine (tk_share g2 HT.out HHD.out).mono ?_
  rintro e' W1 (⟨z, ME1, hm, rfl, hT⟩ | ⟨c, ME1, hm, hc, rfl, hT⟩)
  · have E1 := Lib.hid hm
    have HTold := HT
    replace HT := Lib.hid hT
    clear hm hT
    go_wp2_with fail
    refine hK.out _ _ (⟨(HT.out.at 23 rfl), (HT.out.at 7 rfl)⟩) (fun hHeld => ?_)
    clear hK K'
    try simp only [Act.put, p1, p2, p3]
    refine wpAnyH_done (by kernel_rfl) ?_ _
    go_wp2_with fail
    go_end0
    exact .inl ⟨{ s with y := z }, _, by unfold anMixE; exact (G.to_ok E1.out).trans (rfl), rfl, HT.out, HO.out⟩
  · unfold Fell
    go_wp2_with fail
    exact ⟨rfl, .inr ⟨_, _, by unfold anMixE; exact G.to_bad hm, hc, rfl, hT⟩⟩
set_option maxHeartbeats 1000000 in
theorem an_mixPub (g2 : Good base Q2) {P : AnP} {s : AnS} (h : Tk base g most Q2 L L2 bs B 147 s.y (P.rest s) w0 w) (ho : AnOk s) (hd : I64 P.d0) :
    Calls Tryz.prog 89 #[.pointer (some ⟨B, 0, none⟩)] w (Gp (anMixPub P s most L) (fun _ => .tuple #[]) (fun L' x w' => Tk base g most Q2 L' L2 bs B 147 x.y (P.rest x) w0 w' ∧ AnOk x) (fun L' w' => Cs base (PSq base g most) Q2 L' L2 bs w0 w')) := by
  have HT := Lib.hid h
  have HO := Lib.hid ho
  have HHD := Lib.hid hd
  clear h ho hd
  go_enter Tryz.func89, Tryz.ntmps89
  replace HT := Lib.hid (HT.out.drew g2)
  refine wp_region_held_drew (S := (fun W => W.cell? ⟨B, 28, none⟩ = some (.int .i64 P.d0) ∧ W.cell? ⟨B, 14, none⟩ = some (.int .i64 P.o.pub))) (by kernel_rfl) (⟨(HT.out.at 23 rfl), (HT.out.at 9 rfl)⟩) (fun hHeld => ?_)
  refine tk1 0 (oi := ?o451) (v := ?v451) ?i451 ?w451 ?y451 ?r451
  case' i451 => simp only [g1, g2, g3]
  case i451 => rfl
  case w451 => kernel_rfl
  case y451 => (intro W hSw; go_simp) <;> with_reducible rfl
  try simp only [Act.put, p1, p2, p3]
  refine tk1 1 (oi := ?o452) (v := ?v452) ?i452 ?w452 ?y452 ?r452
  case' i452 => simp only [g1, g2, g3]
  case i452 => rfl
  case w452 => kernel_rfl
  case y452 => (intro W hSw; go_simp) <;> with_reducible rfl
  try simp only [Act.put, p1, p2, p3]
  refine tk1 2 (oi := ?o453) (v := ?v453) ?i453 ?w453 ?y453 ?r453
  case' i453 => simp only [g1, g2, g3]
  case i453 => rfl
  case w453 => kernel_rfl
  case y453 => (intro W hSw; go_simp) <;> with_reducible rfl
  try simp only [Act.put, p1, p2, p3]
  refine tk1 3 (oi := ?o454) (v := ?v454) ?i454 ?w454 ?y454 ?r454
  case' i454 => simp only [g1, g2, g3]
  case i454 => rfl
  case w454 => kernel_rfl
  case y454 => (intro W hSw; go_simp) <;> with_reducible rfl
  try simp only [Act.put, p1, p2, p3]
  refine tk1 4 (oi := ?o455) (v := ?v455) ?i455 ?w455 ?y455 ?r455
  case' i455 => simp only [g1, g2, g3]
  case i455 => rfl
  case w455 => kernel_rfl
  case y455 => (intro W hSw; go_simp) <;> with_reducible rfl
  try simp only [Act.put, p1, p2, p3]
  refine tk1 5 (oi := ?o456) (v := ?v456) ?i456 ?w456 ?y456 ?r456
  case' i456 => simp only [g1, g2, g3]
  case i456 => rfl
  case w456 => kernel_rfl
  case y456 => (intro W hSw; go_simp) <;> with_reducible rfl
  try simp only [Act.put, p1, p2, p3]
  refine tk1 6 (oi := ?o457) (v := ?v457) ?i457 ?w457 ?y457 ?r457
  case' i457 => simp only [g1, g2, g3]
  case i457 => rfl
  case w457 => kernel_rfl
  case y457 => (intro W hSw; go_simp) <;> with_reducible rfl
  try simp only [Act.put, p1, p2, p3]
  refine tk1 7 (oi := ?o458) (v := ?v458) ?i458 ?w458 ?y458 ?r458
  case' i458 => simp only [g1, g2, g3]
  case i458 => rfl
  case w458 => kernel_rfl
  case y458 => (intro W hSw; obtain ⟨q28, q14⟩ := hSw; go_simp) <;> with_reducible rfl
  try simp only [Act.put, p1, p2, p3]
  refine tk1 8 (oi := ?o459) (v := ?v459) ?i459 ?w459 ?y459 ?r459
  case' i459 => simp only [g1, g2, g3]
  case i459 => rfl
  case w459 => kernel_rfl
  case y459 => (intro W hSw; go_simp) <;> with_reducible rfl
  try simp only [Act.put, p1, p2, p3]
  refine tk1 9 (oi := ?o460) (v := ?v460) ?i460 ?w460 ?y460 ?r460
  case' i460 => simp only [g1, g2, g3]
  case i460 => rfl
  case w460 => kernel_rfl
  case y460 => (intro W hSw; go_simp) <;> with_reducible rfl
  try simp only [Act.put, p1, p2, p3]
  refine tk1 10 (oi := ?o461) (v := ?v461) ?i461 ?w461 ?y461 ?r461
  case' i461 => simp only [g1, g2, g3]
  case i461 => rfl
  case w461 => kernel_rfl
  case y461 => (intro W hSw; go_simp) <;> with_reducible rfl
  try simp only [Act.put, p1, p2, p3]
  refine tk1 11 (oi := ?o462) (v := ?v462) ?i462 ?w462 ?y462 ?r462
  case' i462 => simp only [g1, g2, g3]
  case i462 => rfl
  case w462 => kernel_rfl
  case y462 => (intro W hSw; go_simp) <;> with_reducible rfl
  try simp only [Act.put, p1, p2, p3]
  refine tk1 12 (oi := ?o463) (v := ?v463) ?i463 ?w463 ?y463 ?r463
  case' i463 => simp only [g1, g2, g3]
  case i463 => rfl
  case w463 => kernel_rfl
  case y463 => (intro W hSw; obtain ⟨q28, q14⟩ := hSw; go_simp) <;> with_reducible rfl
  try simp only [Act.put, p1, p2, p3]
  refine wpAnyH_ready (rs := [13]) (by kernel_rfl) (by simp) ?_
  refine (AllReadyH.cons (o := ?o464_0) ?i464_0 (fun K' hK => ?g464_0) AllReadyH.nil)
  case' i464_0 => simp only [g1, g2, g3]
  case i464_0 => rfl
  go_simp
  go_at_call 119
  refine (tk_share g2 HT.out HHD.out).mono ?_
  rintro e' W1 (⟨z, ME1, hm, rfl, hT⟩ | ⟨c, ME1, hm, hc, rfl, hT⟩)
  · have E1 := Lib.hid hm
    have HTold := HT
    replace HT := Lib.hid hT
    clear hm hT
    go_wp2_with fail
    refine hK.out _ _ (⟨(HT.out.at 23 rfl), (HT.out.at 9 rfl)⟩) (fun hHeld => ?_)
    clear hK K'
    try simp only [Act.put, p1, p2, p3]
    refine wpAnyH_done (by kernel_rfl) ?_ _
    go_wp2_with fail
    go_end0
    exact .inl ⟨{ s with y := z }, _, by unfold anMixPub; exact (G.to_ok E1.out).trans (rfl), rfl, HT.out, HO.out⟩
  · unfold Fell
    go_wp2_with fail
    exact ⟨rfl, .inr ⟨_, _, by unfold anMixPub; exact G.to_bad hm, hc, rfl, hT⟩⟩
set_option maxHeartbeats 1000000 in
theorem an_wrapSecret (g2 : Good base Q2) {P : AnP} {s : AnS} (h : Tk base g most Q2 L L2 bs B 147 s.y (P.rest s) w0 w) (ho : AnOk s) (hd : I64 P.d1) :
    Calls Tryz.prog 90 #[.pointer (some ⟨B, 0, none⟩)] w (Gp (anWrap P s most L) (fun _ => .tuple #[]) (fun L' x w' => Tk base g most Q2 L' L2 bs B 147 x.y (P.rest x) w0 w' ∧ AnOk x) (fun L' w' => Cs base (PSq base g most) Q2 L' L2 bs w0 w')) := by
  have HT := Lib.hid h
  have HO := Lib.hid ho
  have HHD := Lib.hid hd
  clear h ho hd
  go_enter Tryz.func90, Tryz.ntmps90
  replace HT := Lib.hid (HT.out.drew g2)
  refine wp_region_held_drew (S := (fun W => W.cell? ⟨B, 13, none⟩ = some (.int .i64 P.o.ek) ∧ W.cell? ⟨B, 29, none⟩ = some (.int .i64 P.d1))) (by kernel_rfl) (⟨(HT.out.at 8 rfl), (HT.out.at 24 rfl)⟩) (fun hHeld => ?_)
  refine tk1 0 (oi := ?o465) (v := ?v465) ?i465 ?w465 ?y465 ?r465
  case' i465 => simp only [g1, g2, g3]
  case i465 => rfl
  case w465 => kernel_rfl
  case y465 => (intro W hSw; go_simp) <;> with_reducible rfl
  try simp only [Act.put, p1, p2, p3]
  refine tk1 1 (oi := ?o466) (v := ?v466) ?i466 ?w466 ?y466 ?r466
  case' i466 => simp only [g1, g2, g3]
  case i466 => rfl
  case w466 => kernel_rfl
  case y466 => (intro W hSw; go_simp) <;> with_reducible rfl
  try simp only [Act.put, p1, p2, p3]
  refine tk1 2 (oi := ?o467) (v := ?v467) ?i467 ?w467 ?y467 ?r467
  case' i467 => simp only [g1, g2, g3]
  case i467 => rfl
  case w467 => kernel_rfl
  case y467 => (intro W hSw; go_simp) <;> with_reducible rfl
  try simp only [Act.put, p1, p2, p3]
  refine tk1 3 (oi := ?o468) (v := ?v468) ?i468 ?w468 ?y468 ?r468
  case' i468 => simp only [g1, g2, g3]
  case i468 => rfl
  case w468 => kernel_rfl
  case y468 => (intro W hSw; go_simp) <;> with_reducible rfl
  try simp only [Act.put, p1, p2, p3]
  refine tk1 4 (oi := ?o469) (v := ?v469) ?i469 ?w469 ?y469 ?r469
  case' i469 => simp only [g1, g2, g3]
  case i469 => rfl
  case w469 => kernel_rfl
  case y469 => (intro W hSw; go_simp) <;> with_reducible rfl
  try simp only [Act.put, p1, p2, p3]
  refine tk1 5 (oi := ?o470) (v := ?v470) ?i470 ?w470 ?y470 ?r470
  case' i470 => simp only [g1, g2, g3]
  case i470 => rfl
  case w470 => kernel_rfl
  case y470 => (intro W hSw; go_simp) <;> with_reducible rfl
  try simp only [Act.put, p1, p2, p3]
  refine tk1 6 (oi := ?o471) (v := ?v471) ?i471 ?w471 ?y471 ?r471
  case' i471 => simp only [g1, g2, g3]
  case i471 => rfl
  case w471 => kernel_rfl
  case y471 => (intro W hSw; go_simp) <;> with_reducible rfl
  try simp only [Act.put, p1, p2, p3]
  refine tk1 7 (oi := ?o472) (v := ?v472) ?i472 ?w472 ?y472 ?r472
  case' i472 => simp only [g1, g2, g3]
  case i472 => rfl
  case w472 => kernel_rfl
  case y472 => (intro W hSw; go_simp) <;> with_reducible rfl
  try simp only [Act.put, p1, p2, p3]
  refine tk1 8 (oi := ?o473) (v := ?v473) ?i473 ?w473 ?y473 ?r473
  case' i473 => simp only [g1, g2, g3]
  case i473 => rfl
  case w473 => kernel_rfl
  case y473 => (intro W hSw; obtain ⟨q13, q29⟩ := hSw; go_simp) <;> with_reducible rfl
  try simp only [Act.put, p1, p2, p3]
  refine tk1 9 (oi := ?o474) (v := ?v474) ?i474 ?w474 ?y474 ?r474
  case' i474 => simp only [g1, g2, g3]
  case i474 => rfl
  case w474 => kernel_rfl
  case y474 => (intro W hSw; go_simp) <;> with_reducible rfl
  try simp only [Act.put, p1, p2, p3]
  refine tk1 10 (oi := ?o475) (v := ?v475) ?i475 ?w475 ?y475 ?r475
  case' i475 => simp only [g1, g2, g3]
  case i475 => rfl
  case w475 => kernel_rfl
  case y475 => (intro W hSw; go_simp) <;> with_reducible rfl
  try simp only [Act.put, p1, p2, p3]
  refine tk1 11 (oi := ?o476) (v := ?v476) ?i476 ?w476 ?y476 ?r476
  case' i476 => simp only [g1, g2, g3]
  case i476 => rfl
  case w476 => kernel_rfl
  case y476 => (intro W hSw; go_simp) <;> with_reducible rfl
  try simp only [Act.put, p1, p2, p3]
  refine tk1 12 (oi := ?o477) (v := ?v477) ?i477 ?w477 ?y477 ?r477
  case' i477 => simp only [g1, g2, g3]
  case i477 => rfl
  case w477 => kernel_rfl
  case y477 => (intro W hSw; go_simp) <;> with_reducible rfl
  try simp only [Act.put, p1, p2, p3]
  refine tk1 13 (oi := ?o478) (v := ?v478) ?i478 ?w478 ?y478 ?r478
  case' i478 => simp only [g1, g2, g3]
  case i478 => rfl
  case w478 => kernel_rfl
  case y478 => (intro W hSw; obtain ⟨q13, q29⟩ := hSw; go_simp) <;> with_reducible rfl
  try simp only [Act.put, p1, p2, p3]
  refine wpAnyH_ready (rs := [14]) (by kernel_rfl) (by simp) ?_
  refine (AllReadyH.cons (o := ?o479_0) ?i479_0 (fun K' hK => ?g479_0) AllReadyH.nil)
  case' i479_0 => simp only [g1, g2, g3]
  case i479_0 => rfl
  go_simp
  go_at_call 120
  refine (tk_wrap g2 HT.out HHD.out).mono ?_
  rintro e' W1 (⟨⟨z, b⟩, ME1, hm, rfl, hT⟩ | ⟨c, ME1, hm, hc, rfl, hT⟩)
  · have E1 := Lib.hid hm
    have HTold := HT
    replace HT := Lib.hid hT
    clear hm hT
    have HBI := Lib.hid (boxG_i64 HTold.out.facts.2.1 HTold.out.facts.2.2 HTold.out.facts.1 E1.out)
    go_wp2_with fail
    refine hK.out _ _ (⟨(HT.out.at 8 rfl), (HT.out.at 24 rfl)⟩) (fun hHeld => ?_)
    clear hK K'
    try simp only [Act.put, p1, p2, p3]
    refine tk1 15 (oi := ?o480) (v := ?v480) ?i480 ?w480 ?y480 ?r480
    case' i480 => simp only [g1, g2, g3]
    case i480 => rfl
    case w480 => kernel_rfl
    case y480 => (intro W hSw; go_simp) <;> with_reducible rfl
    try simp only [Act.put, p1, p2, p3]
    refine tk1 16 (oi := ?o481) (v := ?v481) ?i481 ?w481 ?y481 ?r481
    case' i481 => simp only [g1, g2, g3]
    case i481 => rfl
    case w481 => kernel_rfl
    case y481 => (intro W hSw; go_simp) <;> with_reducible rfl
    try simp only [Act.put, p1, p2, p3]
    refine tk1 17 (oi := ?o482) (v := ?v482) ?i482 ?w482 ?y482 ?r482
    case' i482 => simp only [g1, g2, g3]
    case i482 => rfl
    case w482 => kernel_rfl
    case y482 => (intro W hSw; go_simp) <;> with_reducible rfl
    try simp only [Act.put, p1, p2, p3]
    refine wpAnyH_ready (rs := [18]) (by kernel_rfl) (by simp) ?_
    refine (AllReadyH.cons (o := ?o483_0) ?i483_0 (fun K' hK => ?g483_0) AllReadyH.nil)
    case' i483_0 => simp only [g1, g2, g3]
    case i483_0 => rfl
    have dst := HT.out.at 18 rfl
    have dfz := HT.out.fz 23
    go_simp
    replace HT := Lib.hid (HT.out.put g2 18 (.int .i64 b))
    clear dst dfz
    refine hK.out _ _ (⟨(HT.out.at 8 rfl), (HT.out.at 24 rfl)⟩) (fun hHeld => ?_)
    clear hK K'
    try simp only [Act.put, p1, p2, p3]
    refine wpAnyH_done (by kernel_rfl) ?_ _
    go_wp2_with fail
    go_end0
    exact .inl ⟨{ s with box := b, y := z }, _, by unfold anWrap; exact (G.to_ok E1.out).trans (rfl), rfl, HT.out, ⟨HO.out.1, HBI.out, HO.out.2.2⟩⟩
  · unfold Fell
    go_wp2_with fail
    exact ⟨rfl, .inr ⟨_, _, by unfold anWrap; exact G.to_bad hm, hc, rfl, hT⟩⟩
set_option maxHeartbeats 1000000 in
theorem an_check (g2 : Good base Q2) {P : AnP} {s : AnS} (h : Tk base g most Q2 L L2 bs B 147 s.y (P.rest s) w0 w) (ho : AnOk s) (hw : Ms.Ms.Wf (P.m s)) :
    Calls Tryz.prog 93 #[.pointer (some ⟨B, 0, none⟩)] w (Gp (anCheck P s most L) (fun _ => .tuple #[]) (fun L' x w' => Tk base g most Q2 L' L2 bs B 147 x.y (P.rest x) w0 w' ∧ AnOk x) (fun L' w' => Cs base (PSq base g most) Q2 L' L2 bs w0 w')) := by
  have HT := Lib.hid h
  have HO := Lib.hid ho
  have HHW := Lib.hid hw
  clear h ho hw
  by_cases hc : Ms.rightM (P.m s) = true
  · have HG : Hid (anCheck P s most L = (.ok s, L)) := Lib.hid (by unfold anCheck; rw [if_pos hc])
    have m0 := HT.out.at 10 rfl
    have m1 := HT.out.at 11 rfl
    have m2 := HT.out.at 12 rfl
    have m3 := HT.out.at 13 rfl
    have m4 := HT.out.at 14 rfl
    have m5 := HT.out.at 15 rfl
    have m6 := HT.out.at 16 rfl
    have m7 := HT.out.at 17 rfl
    have m8 := HT.out.at 18 rfl
    have m9 := HT.out.at 19 rfl
    have m10 := HT.out.at 20 rfl
    have m11 := HT.out.at 21 rfl
    have m12 := HT.out.at 22 rfl
    have HC := Lib.hid hc
    clear hc
    go_enter Tryz.func93, Tryz.ntmps93
    go_wp2_with fail
    refine (mustBe_yes (P.m s) 2 _ HHW.out rfl HC.out).mono ?_
    rintro e' w1 ⟨rfl, hb⟩
    replace HT := Lib.hid (HT.out.below g2 hb)
    clear hb
    go_wp2_with fail
    go_end0
    exact .inl ⟨_, _, HG.out, rfl, HT.out, HO.out⟩
  · have HG : Hid (anCheck P s most L = (.error 3, L)) := Lib.hid (by unfold anCheck; rw [if_neg hc])
    have m0 := HT.out.at 10 rfl
    have m1 := HT.out.at 11 rfl
    have m2 := HT.out.at 12 rfl
    have m3 := HT.out.at 13 rfl
    have m4 := HT.out.at 14 rfl
    have m5 := HT.out.at 15 rfl
    have m6 := HT.out.at 16 rfl
    have m7 := HT.out.at 17 rfl
    have m8 := HT.out.at 18 rfl
    have m9 := HT.out.at 19 rfl
    have m10 := HT.out.at 20 rfl
    have m11 := HT.out.at 21 rfl
    have m12 := HT.out.at 22 rfl
    have HC := Lib.hid hc
    clear hc
    go_enter Tryz.func93, Tryz.ntmps93
    go_wp2_with fail
    refine (mustBe_no (P.m s) 2 _ HHW.out (fun q => HC.out q.2)).mono ?_
    rintro e' w1 ⟨rfl, hb⟩
    replace HT := Lib.hid (HT.out.below g2 hb)
    clear hb
    unfold Fell
    go_wp2_with fail
    exact ⟨rfl, .inr ⟨_, _, HG.out, by decide, rfl, HT.out.fall⟩⟩
set_option maxHeartbeats 1000000 in
theorem an_sealVersion (g2 : Good base Q2) {P : AnP} {s : AnS} (h : Tk base g most Q2 L L2 bs B 147 s.y (P.rest s) w0 w) (ho : AnOk s)  :
    Calls Tryz.prog 91 #[.pointer (some ⟨B, 0, none⟩)] w (Gp (anSeal P s most L) (fun _ => .tuple #[]) (fun L' x w' => Tk base g most Q2 L' L2 bs B 147 x.y (P.rest x) w0 w' ∧ AnOk x) (fun L' w' => Cs base (PSq base g most) Q2 L' L2 bs w0 w')) := by
  have HT := Lib.hid h
  have HO := Lib.hid ho
  clear h ho
  have c10 := HT.out.at 5 rfl
  obtain ⟨zb, hzb⟩ : ∃ zb, P.o.version % 256 = zb := ⟨_, rfl⟩
  have hw : IntKind.u8.wrap P.o.version = zb := by
    rw [← hzb]
    simp [IntKind.wrap, IntKind.bits, IntKind.signed]
  have hz0 : 0 ≤ zb := by omega
  have hz1 : zb < 256 := by omega
  have hcv := Ms.conv_one w zb hz0 hz1
  have HV : Hid ((⟨[UInt8.ofNat zb.toNat].toArray⟩ : ByteArray) = verS P.o.version) := Lib.hid (by rw [← hzb]; rfl)
  have HAL := Lib.hid (below_alloc w (.cells #[.int .u8 zb] 5 : Obj))
  have HHZ : Hid ((verS P.o.version).size ≤ maxLen) := Lib.hid (show (1 : Nat) ≤ maxLen by decide)
  clear hzb
  go_enter Tryz.func91, Tryz.ntmps91
  go_wp2_with fail
  rw [HV.out]
  replace HT := Lib.hid ((HT.out.below g2 HAL.out).drew g2)
  clear c10 hcv hw hz0 hz1 HAL
  refine wp_region_held_drew (S := (fun _ => True)) (by kernel_rfl) (trivial) (fun hHeld => ?_)
  refine tk1 0 (oi := ?o382) (v := ?v382) ?i382 ?w382 ?y382 ?r382
  case' i382 => simp only [g1, g2, g3]
  case i382 => rfl
  case w382 => kernel_rfl
  case y382 => (intro W hSw; go_simp) <;> with_reducible rfl
  try simp only [Act.put, p1, p2, p3]
  refine tk1 1 (oi := ?o383) (v := ?v383) ?i383 ?w383 ?y383 ?r383
  case' i383 => simp only [g1, g2, g3]
  case i383 => rfl
  case w383 => kernel_rfl
  case y383 => (intro W hSw; go_simp) <;> with_reducible rfl
  try simp only [Act.put, p1, p2, p3]
  refine tk1 2 (oi := ?o384) (v := ?v384) ?i384 ?w384 ?y384 ?r384
  case' i384 => simp only [g1, g2, g3]
  case i384 => rfl
  case w384 => kernel_rfl
  case y384 => (intro W hSw; go_simp) <;> with_reducible rfl
  try simp only [Act.put, p1, p2, p3]
  refine tk1 3 (oi := ?o385) (v := ?v385) ?i385 ?w385 ?y385 ?r385
  case' i385 => simp only [g1, g2, g3]
  case i385 => rfl
  case w385 => kernel_rfl
  case y385 => (intro W hSw; go_simp) <;> with_reducible rfl
  try simp only [Act.put, p1, p2, p3]
  refine tk1 4 (oi := ?o386) (v := ?v386) ?i386 ?w386 ?y386 ?r386
  case' i386 => simp only [g1, g2, g3]
  case i386 => rfl
  case w386 => kernel_rfl
  case y386 => (intro W hSw; go_simp) <;> with_reducible rfl
  try simp only [Act.put, p1, p2, p3]
  refine tk1 5 (oi := ?o387) (v := ?v387) ?i387 ?w387 ?y387 ?r387
  case' i387 => simp only [g1, g2, g3]
  case i387 => rfl
  case w387 => kernel_rfl
  case y387 => (intro W hSw; go_simp) <;> with_reducible rfl
  try simp only [Act.put, p1, p2, p3]
  refine tk1 6 (oi := ?o388) (v := ?v388) ?i388 ?w388 ?y388 ?r388
  case' i388 => simp only [g1, g2, g3]
  case i388 => rfl
  case w388 => kernel_rfl
  case y388 => (intro W hSw; go_simp) <;> with_reducible rfl
  try simp only [Act.put, p1, p2, p3]
  refine tk1 7 (oi := ?o389) (v := ?v389) ?i389 ?w389 ?y389 ?r389
  case' i389 => simp only [g1, g2, g3]
  case i389 => rfl
  case w389 => kernel_rfl
  case y389 => (intro W hSw; go_simp) <;> with_reducible rfl
  try simp only [Act.put, p1, p2, p3]
  refine wpAnyH_ready (rs := [8]) (by kernel_rfl) (by simp) ?_
  refine (AllReadyH.cons (o := ?o390_0) ?i390_0 (fun K' hK => ?g390_0) AllReadyH.nil)
  case' i390_0 => simp only [g1, g2, g3]
  case i390_0 => rfl
  go_simp
  go_at_call 123
  refine (tk_text g2 HT.out HHZ.out).mono ?_
  rintro e' W1 (⟨a, ME1, hm, rfl, hT⟩ | ⟨c, ME1, hm, hc, rfl, hT⟩)
  · have E1 := Lib.hid hm
    have HTold := HT
    replace HT := Lib.hid hT
    clear hm hT
    have HPI := Lib.hid (putG_i64 HTold.out.facts.2.1 HTold.out.facts.2.2 E1.out)
    go_wp2_with fail
    refine hK.out _ _ (trivial) (fun hHeld => ?_)
    clear hK K'
    try simp only [Act.put, p1, p2, p3]
    refine wpAnyH_ready (rs := [9]) (by kernel_rfl) (by simp) ?_
    refine (AllReadyH.cons (o := ?o391_0) ?i391_0 (fun K' hK => ?g391_0) AllReadyH.nil)
    case' i391_0 => simp only [g1, g2, g3]
    case i391_0 => rfl
    go_simp
    go_at_call 121
    refine (tk_seal g2 HT.out HPI.out).mono ?_
    rintro e' W1 (⟨⟨z, c⟩, ME2, hm, rfl, hT⟩ | ⟨c, ME2, hm, hc, rfl, hT⟩)
    · have E2 := Lib.hid hm
      have HTold := HT
      replace HT := Lib.hid hT
      clear hm hT
      have HBI := Lib.hid (sealG_i64 HTold.out.facts.2.1 HTold.out.facts.2.2 HTold.out.facts.1 HTold.out.wf E2.out)
      go_wp2_with fail
      refine hK.out _ _ (trivial) (fun hHeld => ?_)
      clear hK K'
      try simp only [Act.put, p1, p2, p3]
      refine tk1 10 (oi := ?o392) (v := ?v392) ?i392 ?w392 ?y392 ?r392
      case' i392 => simp only [g1, g2, g3]
      case i392 => rfl
      case w392 => kernel_rfl
      case y392 => (intro W hSw; go_simp) <;> with_reducible rfl
      try simp only [Act.put, p1, p2, p3]
      refine tk1 11 (oi := ?o393) (v := ?v393) ?i393 ?w393 ?y393 ?r393
      case' i393 => simp only [g1, g2, g3]
      case i393 => rfl
      case w393 => kernel_rfl
      case y393 => (intro W hSw; go_simp) <;> with_reducible rfl
      try simp only [Act.put, p1, p2, p3]
      refine tk1 12 (oi := ?o394) (v := ?v394) ?i394 ?w394 ?y394 ?r394
      case' i394 => simp only [g1, g2, g3]
      case i394 => rfl
      case w394 => kernel_rfl
      case y394 => (intro W hSw; go_simp) <;> with_reducible rfl
      try simp only [Act.put, p1, p2, p3]
      refine wpAnyH_ready (rs := [13]) (by kernel_rfl) (by simp) ?_
      refine (AllReadyH.cons (o := ?o395_0) ?i395_0 (fun K' hK => ?g395_0) AllReadyH.nil)
      case' i395_0 => simp only [g1, g2, g3]
      case i395_0 => rfl
      have dst := HT.out.at 19 rfl
      have dfz := HT.out.fz 24
      go_simp
      replace HT := Lib.hid (HT.out.put g2 19 (.int .i64 c))
      clear dst dfz
      refine hK.out _ _ (trivial) (fun hHeld => ?_)
      clear hK K'
      try simp only [Act.put, p1, p2, p3]
      refine wpAnyH_done (by kernel_rfl) ?_ _
      go_wp2_with fail
      go_end0
      exact .inl ⟨{ s with c1 := c, y := z }, _, by unfold anSeal; exact (G.to_ok E1.out).trans ((G.to_ok E2.out).trans (rfl)), rfl, HT.out, ⟨HO.out.1, HO.out.2.1, HBI.out⟩⟩
    · unfold Fell
      go_wp2_with fail
      exact ⟨rfl, .inr ⟨_, _, by unfold anSeal; exact (G.to_ok E1.out).trans (G.to_bad hm), hc, rfl, hT⟩⟩
  · unfold Fell
    go_wp2_with fail
    exact ⟨rfl, .inr ⟨_, _, by unfold anSeal; exact G.to_bad hm, hc, rfl, hT⟩⟩
set_option maxHeartbeats 1000000 in
theorem an_end (g2 : Good base Q2) {P : AnP} {s : AnS} (h : Tk base g most Q2 L L2 bs B 147 s.y (P.rest s) w0 w) (ho : AnOk s)  :
    Calls Tryz.prog 92 #[.pointer (some ⟨B, 0, none⟩)] w (Gp (anEnd P s most L) (fun _ => .tuple #[]) (fun L' x w' => Tk base g most Q2 L' L2 bs B 147 x.y (P.rest x) w0 w' ∧ AnOk x) (fun L' w' => Cs base (PSq base g most) Q2 L' L2 bs w0 w')) := by
  have HT := Lib.hid h
  have HO := Lib.hid ho
  clear h ho
  go_enter Tryz.func92, Tryz.ntmps92
  go_wp2_with fail
  refine (tk_split g2 HT.out).mono ?_
  rintro e' W1 (⟨⟨k1, k2⟩, M1, hm, rfl, hT⟩ | ⟨c, M1, hm, hc, rfl, hT⟩)
  · have E1 := Lib.hid hm
    replace HT := Lib.hid hT
    clear hm hT
    go_wp2_with fail
    have HT0 := HT
    replace HT := Lib.hid (HT.out.drew g2)
    refine wp_region_held_drew (S := (fun W => W.cell? ⟨B, 3, none⟩ = some (.int .i64 s.y.H) ∧ W.cell? ⟨B, 10, none⟩ = some (.int .i64 P.o.version))) (by kernel_rfl) (⟨HT.out.c3, (HT.out.at 5 rfl)⟩) (fun hHeld => ?_)
    refine tk1 0 (oi := ?o396) (v := ?v396) ?i396 ?w396 ?y396 ?r396
    case' i396 => simp only [g1, g2, g3]
    case i396 => rfl
    case w396 => kernel_rfl
    case y396 => (intro W hSw; go_simp) <;> with_reducible rfl
    try simp only [Act.put, p1, p2, p3]
    refine tk1 1 (oi := ?o397) (v := ?v397) ?i397 ?w397 ?y397 ?r397
    case' i397 => simp only [g1, g2, g3]
    case i397 => rfl
    case w397 => kernel_rfl
    case y397 => (intro W hSw; go_simp) <;> with_reducible rfl
    try simp only [Act.put, p1, p2, p3]
    refine tk1 2 (oi := ?o398) (v := ?v398) ?i398 ?w398 ?y398 ?r398
    case' i398 => simp only [g1, g2, g3]
    case i398 => rfl
    case w398 => kernel_rfl
    case y398 => (intro W hSw; go_simp) <;> with_reducible rfl
    try simp only [Act.put, p1, p2, p3]
    refine tk1 3 (oi := ?o399) (v := ?v399) ?i399 ?w399 ?y399 ?r399
    case' i399 => simp only [g1, g2, g3]
    case i399 => rfl
    case w399 => kernel_rfl
    case y399 => (intro W hSw; go_simp) <;> with_reducible rfl
    try simp only [Act.put, p1, p2, p3]
    refine tk1 4 (oi := ?o400) (v := ?v400) ?i400 ?w400 ?y400 ?r400
    case' i400 => simp only [g1, g2, g3]
    case i400 => rfl
    case w400 => kernel_rfl
    case y400 => (intro W hSw; go_simp) <;> with_reducible rfl
    try simp only [Act.put, p1, p2, p3]
    refine tk1 5 (oi := ?o401) (v := ?v401) ?i401 ?w401 ?y401 ?r401
    case' i401 => simp only [g1, g2, g3]
    case i401 => rfl
    case w401 => kernel_rfl
    case y401 => (intro W hSw; go_simp) <;> with_reducible rfl
    try simp only [Act.put, p1, p2, p3]
    refine tk1 6 (oi := ?o402) (v := ?v402) ?i402 ?w402 ?y402 ?r402
    case' i402 => simp only [g1, g2, g3]
    case i402 => rfl
    case w402 => kernel_rfl
    case y402 => (intro W hSw; obtain ⟨q3, q10⟩ := hSw; go_simp) <;> with_reducible rfl
    try simp only [Act.put, p1, p2, p3]
    refine tk1 7 (oi := ?o403) (v := ?v403) ?i403 ?w403 ?y403 ?r403
    case' i403 => simp only [g1, g2, g3]
    case i403 => rfl
    case w403 => kernel_rfl
    case y403 => (intro W hSw; go_simp) <;> with_reducible rfl
    try simp only [Act.put, p1, p2, p3]
    refine tk1 8 (oi := ?o404) (v := ?v404) ?i404 ?w404 ?y404 ?r404
    case' i404 => simp only [g1, g2, g3]
    case i404 => rfl
    case w404 => kernel_rfl
    case y404 => (intro W hSw; go_simp) <;> with_reducible rfl
    try simp only [Act.put, p1, p2, p3]
    refine tk1 9 (oi := ?o405) (v := ?v405) ?i405 ?w405 ?y405 ?r405
    case' i405 => simp only [g1, g2, g3]
    case i405 => rfl
    case w405 => kernel_rfl
    case y405 => (intro W hSw; go_simp) <;> with_reducible rfl
    try simp only [Act.put, p1, p2, p3]
    refine tk1 10 (oi := ?o406) (v := ?v406) ?i406 ?w406 ?y406 ?r406
    case' i406 => simp only [g1, g2, g3]
    case i406 => rfl
    case w406 => kernel_rfl
    case y406 => (intro W hSw; go_simp) <;> with_reducible rfl
    try simp only [Act.put, p1, p2, p3]
    refine tk1 11 (oi := ?o407) (v := ?v407) ?i407 ?w407 ?y407 ?r407
    case' i407 => simp only [g1, g2, g3]
    case i407 => rfl
    case w407 => kernel_rfl
    case y407 => (intro W hSw; go_simp) <;> with_reducible rfl
    try simp only [Act.put, p1, p2, p3]
    refine tk1 12 (oi := ?o408) (v := ?v408) ?i408 ?w408 ?y408 ?r408
    case' i408 => simp only [g1, g2, g3]
    case i408 => rfl
    case w408 => kernel_rfl
    case y408 => (intro W hSw; go_simp) <;> with_reducible rfl
    try simp only [Act.put, p1, p2, p3]
    refine tk1 13 (oi := ?o409) (v := ?v409) ?i409 ?w409 ?y409 ?r409
    case' i409 => simp only [g1, g2, g3]
    case i409 => rfl
    case w409 => kernel_rfl
    case y409 => (intro W hSw; obtain ⟨q3, q10⟩ := hSw; go_simp) <;> with_reducible rfl
    try simp only [Act.put, p1, p2, p3]
    refine tk1 14 (oi := ?o410) (v := ?v410) ?i410 ?w410 ?y410 ?r410
    case' i410 => simp only [g1, g2, g3]
    case i410 => rfl
    case w410 => kernel_rfl
    case y410 => (intro W hSw; go_simp) <;> with_reducible rfl
    try simp only [Act.put, p1, p2, p3]
    refine tk1 15 (oi := ?o411) (v := ?v411) ?i411 ?w411 ?y411 ?r411
    case' i411 => simp only [g1, g2, g3]
    case i411 => rfl
    case w411 => kernel_rfl
    case y411 => (intro W hSw; go_simp) <;> with_reducible rfl
    try simp only [Act.put, p1, p2, p3]
    refine tk1 16 (oi := ?o412) (v := ?v412) ?i412 ?w412 ?y412 ?r412
    case' i412 => simp only [g1, g2, g3]
    case i412 => rfl
    case w412 => kernel_rfl
    case y412 => (intro W hSw; go_simp) <;> with_reducible rfl
    try simp only [Act.put, p1, p2, p3]
    refine wpAnyH_ready (rs := [17]) (by kernel_rfl) (by simp) ?_
    refine (AllReadyH.cons (o := ?o413_0) ?i413_0 (fun K' hK => ?g413_0) AllReadyH.nil)
    case' i413_0 => simp only [g1, g2, g3]
    case i413_0 => rfl
    have ds0 := HT0.out.cl 30 (by decide) rfl
    have df0 := HT0.out.fz 30
    have ds1 := HT0.out.cl 31 (by decide) rfl
    have df1 := HT0.out.fz 31
    have ds2 := HT0.out.cl 32 (by decide) rfl
    have df2 := HT0.out.fz 32
    have ds3 := HT0.out.cl 33 (by decide) rfl
    have df3 := HT0.out.fz 33
    go_simp
    replace HT := Lib.hid (HT.out.put g2 25 (.int .i64 s.y.H))
    replace HT := Lib.hid (HT.out.put g2 26 (.int .i64 k2))
    replace HT := Lib.hid (HT.out.put g2 27 (.int .i64 k1))
    replace HT := Lib.hid (HT.out.put g2 28 (.int .i64 P.o.version))
    clear ds0 df0 ds1 df1 ds2 df2 ds3 df3
    refine hK.out _ _ (⟨HT.out.c3, (HT.out.at 5 rfl)⟩) (fun hHeld => ?_)
    clear hK K'
    try simp only [Act.put, p1, p2, p3]
    refine wpAnyH_done (by kernel_rfl) ?_ _
    go_wp2_with fail
    go_end0
    exact .inl ⟨{ s with h := s.y.H, send := k2, recv := k1, version := P.o.version }, _, by unfold anEnd; exact (G.to_ok E1.out).trans rfl, rfl, HT.out, HO.out⟩
  · unfold Fell
    go_wp2_with fail
    exact ⟨rfl, .inr ⟨_, _, by unfold anEnd; exact G.to_bad hm, hc, rfl, hT⟩⟩
end
end Go.Proofs.YtgeonppckeiceaaGreatDoor
