/- The steps of Finish (by tools/stage17/steps.py). -/
import Derived.Test.YtgeonppckeiceaaGreatDoorGp34
namespace Go.Proofs.YtgeonppckeiceaaGreatDoor
open Go.RowKit
set_option linter.unusedVariables false
set_option linter.unusedSimpArgs false
set_option maxRecDepth 20000
theorem one_byte {t : ByteArray} (h : t.size = 1) : ∃ c, t = ⟨#[c]⟩ := by
  obtain ⟨⟨l⟩⟩ := t
  match l, h with
  | [c], _ => exact ⟨c, rfl⟩
  | [], h => simp [ByteArray.size] at h
  | _ :: _ :: _, h => simp [ByteArray.size] at h
theorem index_mem (c : UInt8) : ∀ l : List UInt8, 0 ≤ Lib.indexByte l c ↔ c ∈ l
  | [] => by simp [Lib.indexByte]
  | b :: l => by
    have ih := index_mem c l
    unfold Lib.indexByte
    by_cases hb : b = c
    · subst hb
      simp
    · rw [if_neg (by simpa using hb)]
      by_cases hm : Lib.indexByte l c = -1
      · rw [if_pos (by simpa using hm)]
        rw [hm] at ih
        simp only [List.mem_cons]
        constructor
        · intro h; omega
        · rintro (h | h)
          · exact absurd h.symm hb
          · have := ih.2 h; omega
      · rw [if_neg (by simpa using hm)]
        have hge : -1 ≤ Lib.indexByte l c := index_ge c l
        simp only [List.mem_cons]
        constructor
        · intro _; exact .inr (ih.1 (by omega))
        · intro _; omega
where
  index_ge (c : UInt8) : ∀ l : List UInt8, -1 ≤ Lib.indexByte l c
  | [] => by simp [Lib.indexByte]
  | b :: l => by
    have := index_ge c l
    unfold Lib.indexByte
    split
    · omega
    · split <;> omega
theorem ver_ok {P : FiP} {s : FiS} {z : Sy} {p : Int} {L M : List Tm} {most : Int} {c : UInt8} (h : unsealG s.y (P.m.i 9) most L = (.ok (z, p), M)) (hk : (getT M p).1.K = 1) (hs : (getT M p).1.S = ⟨#[c]⟩) (hm : c ∈ P.p.offer.data.toList) :
    fiVersion P s most L = (.ok { s with y := z, version := (c.toNat : Int) }, M) := by
  unfold fiVersion
  rw [G.to_ok h]
  have e : byteF M p = some c := by unfold byteF; rw [if_pos hk, hs]
  unfold verG verF
  rw [e]
  simp only [if_pos hm]
theorem ver_none {P : FiP} {s : FiS} {z : Sy} {p : Int} {L M : List Tm} {most : Int} {c : UInt8} (h : unsealG s.y (P.m.i 9) most L = (.ok (z, p), M)) (hk : (getT M p).1.K = 1) (hs : (getT M p).1.S = ⟨#[c]⟩) (hm : ¬ c ∈ P.p.offer.data.toList) :
    fiVersion P s most L = (.error 11, M) := by
  unfold fiVersion
  rw [G.to_ok h]
  have e : byteF M p = some c := by unfold byteF; rw [if_pos hk, hs]
  unfold verG verF
  rw [e]
  simp only [if_neg hm]
theorem byte_none {t : ByteArray} (h : t.size ≠ 1) : (match t.data.toList with | [c] => some c | _ => none) = (none : Option UInt8) := by
  obtain ⟨⟨l⟩⟩ := t
  match l, h with
  | [], _ => rfl
  | [c], h => exact absurd rfl h
  | _ :: _ :: _, _ => rfl
theorem ver_no {P : FiP} {s : FiS} {z : Sy} {p : Int} {L M : List Tm} {most : Int} (h : unsealG s.y (P.m.i 9) most L = (.ok (z, p), M)) (hk : (getT M p).1.K = 1) (hs : (getT M p).1.S.size ≠ 1) :
    fiVersion P s most L = (.error 3, M) := by
  unfold fiVersion
  rw [G.to_ok h]
  have e : byteF M p = none := by unfold byteF; rw [if_pos hk]; exact byte_none hs
  unfold verG verF
  rw [e]
theorem ver_bad {P : FiP} {s : FiS} {e : Int} {L M : List Tm} {most : Int} (h : textG s.y (P.m.i 9) most L = (.error e, M)) : fiVersion P s most L = (.error e, M) := by
  rcases text_no h with h1 | ⟨z, p, h1, hk, he⟩
  · exact G.to_bad h1
  · subst he
    unfold fiVersion
    rw [G.to_ok h1]
    have e : byteF M p = none := by unfold byteF; rw [if_neg hk]
    unfold verG verF
    rw [e]
section
variable {base g B : Nat} {most : Int} {Q2 : (Nat → Prop) → List Tm → World → Prop} {L L' L2 : List Tm} {bs : List (Nat × Obj)} {w0 w w' : World}
set_option maxHeartbeats 1000000 in
theorem fi_check (g2 : Good base Q2) {P : FiP} {s : FiS} (h : Tk base g most Q2 L L2 bs B 151 s.y (P.rest s) w0 w) (hw : Ms.Ms.Wf P.m) :
    Calls Tryz.prog 95 #[.pointer (some ⟨B, 0, none⟩)] w (Gp (fiCheck P s most L) (fun _ => .tuple #[]) (fun L' x w' => Tk base g most Q2 L' L2 bs B 151 x.y (P.rest x) w0 w') (fun L' w' => Cs base (PSq base g most) Q2 L' L2 bs w0 w')) := by
  have HT := Lib.hid h
  have HHW := Lib.hid hw
  clear h hw
  by_cases hc : P.m.i 0 = 2 ∧ Ms.rightM P.m = true
  · have HG : Hid (fiCheck P s most L = (.ok s, L)) := Lib.hid (by unfold fiCheck; rw [if_pos hc])
    have m0 := HT.out.at 9 rfl
    have m1 := HT.out.at 10 rfl
    have m2 := HT.out.at 11 rfl
    have m3 := HT.out.at 12 rfl
    have m4 := HT.out.at 13 rfl
    have m5 := HT.out.at 14 rfl
    have m6 := HT.out.at 15 rfl
    have m7 := HT.out.at 16 rfl
    have m8 := HT.out.at 17 rfl
    have m9 := HT.out.at 18 rfl
    have m10 := HT.out.at 19 rfl
    have m11 := HT.out.at 20 rfl
    have m12 := HT.out.at 21 rfl
    have HC := Lib.hid hc
    clear hc
    go_enter Tryz.func95, Tryz.ntmps95
    go_wp2_with fail
    refine (mustBe_yes (P.m) 2 _ HHW.out HC.out.1 HC.out.2).mono ?_
    rintro e' w1 ⟨rfl, hb⟩
    replace HT := Lib.hid (HT.out.below g2 hb)
    clear hb
    go_wp2_with fail
    go_end0
    exact .inl ⟨_, _, HG.out, rfl, HT.out⟩
  · have HG : Hid (fiCheck P s most L = (.error 3, L)) := Lib.hid (by unfold fiCheck; rw [if_neg hc])
    have m0 := HT.out.at 9 rfl
    have m1 := HT.out.at 10 rfl
    have m2 := HT.out.at 11 rfl
    have m3 := HT.out.at 12 rfl
    have m4 := HT.out.at 13 rfl
    have m5 := HT.out.at 14 rfl
    have m6 := HT.out.at 15 rfl
    have m7 := HT.out.at 16 rfl
    have m8 := HT.out.at 17 rfl
    have m9 := HT.out.at 18 rfl
    have m10 := HT.out.at 19 rfl
    have m11 := HT.out.at 20 rfl
    have m12 := HT.out.at 21 rfl
    have HC := Lib.hid hc
    clear hc
    go_enter Tryz.func95, Tryz.ntmps95
    go_wp2_with fail
    refine (mustBe_no (P.m) 2 _ HHW.out HC.out).mono ?_
    rintro e' w1 ⟨rfl, hb⟩
    replace HT := Lib.hid (HT.out.below g2 hb)
    clear hb
    unfold Fell
    go_wp2_with fail
    exact ⟨rfl, .inr ⟨_, _, HG.out, by decide, rfl, HT.out.fall⟩⟩
set_option maxHeartbeats 1000000 in
theorem fi_hearE (g2 : Good base Q2) {P : FiP} {s : FiS} (h : Tk base g most Q2 L L2 bs B 151 s.y (P.rest s) w0 w) (hx : I64 (P.m.i 6)) :
    Calls Tryz.prog 96 #[.pointer (some ⟨B, 0, none⟩)] w (Gp (fiHear P s most L) (fun _ => .tuple #[]) (fun L' x w' => Tk base g most Q2 L' L2 bs B 151 x.y (P.rest x) w0 w') (fun L' w' => Cs base (PSq base g most) Q2 L' L2 bs w0 w')) := by
  have HT := Lib.hid h
  have HHX := Lib.hid hx
  clear h hx
  go_enter Tryz.func96, Tryz.ntmps96
  replace HT := Lib.hid (HT.out.drew g2)
  refine wp_region_held_drew (S := (fun W => W.cell? ⟨B, 20, none⟩ = some (.int .i64 (P.m.i 6)))) (by kernel_rfl) ((HT.out.at 15 rfl)) (fun hHeld => ?_)
  refine tk1 0 (oi := ?o494) (v := ?v494) ?i494 ?w494 ?y494 ?r494
  case' i494 => simp only [g1, g2, g3]
  case i494 => rfl
  case w494 => kernel_rfl
  case y494 => (intro W hSw; go_simp) <;> with_reducible rfl
  try simp only [Act.put, p1, p2, p3]
  refine tk1 1 (oi := ?o495) (v := ?v495) ?i495 ?w495 ?y495 ?r495
  case' i495 => simp only [g1, g2, g3]
  case i495 => rfl
  case w495 => kernel_rfl
  case y495 => (intro W hSw; go_simp) <;> with_reducible rfl
  try simp only [Act.put, p1, p2, p3]
  refine tk1 2 (oi := ?o496) (v := ?v496) ?i496 ?w496 ?y496 ?r496
  case' i496 => simp only [g1, g2, g3]
  case i496 => rfl
  case w496 => kernel_rfl
  case y496 => (intro W hSw; go_simp) <;> with_reducible rfl
  try simp only [Act.put, p1, p2, p3]
  refine tk1 3 (oi := ?o497) (v := ?v497) ?i497 ?w497 ?y497 ?r497
  case' i497 => simp only [g1, g2, g3]
  case i497 => rfl
  case w497 => kernel_rfl
  case y497 => (intro W hSw; go_simp) <;> with_reducible rfl
  try simp only [Act.put, p1, p2, p3]
  refine tk1 4 (oi := ?o498) (v := ?v498) ?i498 ?w498 ?y498 ?r498
  case' i498 => simp only [g1, g2, g3]
  case i498 => rfl
  case w498 => kernel_rfl
  case y498 => (intro W hSw; go_simp) <;> with_reducible rfl
  try simp only [Act.put, p1, p2, p3]
  refine tk1 5 (oi := ?o499) (v := ?v499) ?i499 ?w499 ?y499 ?r499
  case' i499 => simp only [g1, g2, g3]
  case i499 => rfl
  case w499 => kernel_rfl
  case y499 => (intro W hSw; go_simp) <;> with_reducible rfl
  try simp only [Act.put, p1, p2, p3]
  refine tk1 6 (oi := ?o500) (v := ?v500) ?i500 ?w500 ?y500 ?r500
  case' i500 => simp only [g1, g2, g3]
  case i500 => rfl
  case w500 => kernel_rfl
  case y500 => (intro W hSw; go_simp) <;> with_reducible rfl
  try simp only [Act.put, p1, p2, p3]
  refine tk1 7 (oi := ?o501) (v := ?v501) ?i501 ?w501 ?y501 ?r501
  case' i501 => simp only [g1, g2, g3]
  case i501 => rfl
  case w501 => kernel_rfl
  case y501 => (intro W hSw; have q := hSw; go_simp) <;> with_reducible rfl
  try simp only [Act.put, p1, p2, p3]
  refine wpAnyH_ready (rs := [8]) (by kernel_rfl) (by simp) ?_
  refine (AllReadyH.cons (o := ?o502_0) ?i502_0 (fun K' hK => ?g502_0) AllReadyH.nil)
  case' i502_0 => simp only [g1, g2, g3]
  case i502_0 => rfl
  go_simp
  go_at_call 136
  refine (tk_hash g2 HT.out HHX.out).mono ?_
  rintro e' W1 (⟨z, ME1, hm, rfl, hT⟩ | ⟨c, ME1, hm, hc, rfl, hT⟩)
  · have E1 := Lib.hid hm
    have HTold := HT
    replace HT := Lib.hid hT
    clear hm hT
    go_wp2_with fail
    refine hK.out _ _ ((HT.out.at 15 rfl)) (fun hHeld => ?_)
    clear hK K'
    try simp only [Act.put, p1, p2, p3]
    refine wpAnyH_done (by kernel_rfl) ?_ _
    go_wp2_with fail
    go_end0
    exact .inl ⟨{ s with y := z }, _, by unfold fiHear; exact (G.to_ok E1.out).trans (rfl), rfl, HT.out⟩
  · unfold Fell
    go_wp2_with fail
    exact ⟨rfl, .inr ⟨_, _, by unfold fiHear; exact G.to_bad hm, hc, rfl, hT⟩⟩
set_option maxHeartbeats 1000000 in
theorem fi_mixE (g2 : Good base Q2) {P : FiP} {s : FiS} (h : Tk base g most Q2 L L2 bs B 151 s.y (P.rest s) w0 w) (hx : I64 P.p.e) :
    Calls Tryz.prog 97 #[.pointer (some ⟨B, 0, none⟩)] w (Gp (fiMixE P s most L) (fun _ => .tuple #[]) (fun L' x w' => Tk base g most Q2 L' L2 bs B 151 x.y (P.rest x) w0 w') (fun L' w' => Cs base (PSq base g most) Q2 L' L2 bs w0 w')) := by
  have HT := Lib.hid h
  have HHX := Lib.hid hx
  clear h hx
  go_enter Tryz.func97, Tryz.ntmps97
  replace HT := Lib.hid (HT.out.drew g2)
  refine wp_region_held_drew (S := (fun W => W.cell? ⟨B, 11, none⟩ = some (.int .i64 P.p.e) ∧ W.cell? ⟨B, 20, none⟩ = some (.int .i64 (P.m.i 6)))) (by kernel_rfl) (⟨(HT.out.at 6 rfl), (HT.out.at 15 rfl)⟩) (fun hHeld => ?_)
  refine tk1 0 (oi := ?o503) (v := ?v503) ?i503 ?w503 ?y503 ?r503
  case' i503 => simp only [g1, g2, g3]
  case i503 => rfl
  case w503 => kernel_rfl
  case y503 => (intro W hSw; go_simp) <;> with_reducible rfl
  try simp only [Act.put, p1, p2, p3]
  refine tk1 1 (oi := ?o504) (v := ?v504) ?i504 ?w504 ?y504 ?r504
  case' i504 => simp only [g1, g2, g3]
  case i504 => rfl
  case w504 => kernel_rfl
  case y504 => (intro W hSw; go_simp) <;> with_reducible rfl
  try simp only [Act.put, p1, p2, p3]
  refine tk1 2 (oi := ?o505) (v := ?v505) ?i505 ?w505 ?y505 ?r505
  case' i505 => simp only [g1, g2, g3]
  case i505 => rfl
  case w505 => kernel_rfl
  case y505 => (intro W hSw; go_simp) <;> with_reducible rfl
  try simp only [Act.put, p1, p2, p3]
  refine tk1 3 (oi := ?o506) (v := ?v506) ?i506 ?w506 ?y506 ?r506
  case' i506 => simp only [g1, g2, g3]
  case i506 => rfl
  case w506 => kernel_rfl
  case y506 => (intro W hSw; go_simp) <;> with_reducible rfl
  try simp only [Act.put, p1, p2, p3]
  refine tk1 4 (oi := ?o507) (v := ?v507) ?i507 ?w507 ?y507 ?r507
  case' i507 => simp only [g1, g2, g3]
  case i507 => rfl
  case w507 => kernel_rfl
  case y507 => (intro W hSw; go_simp) <;> with_reducible rfl
  try simp only [Act.put, p1, p2, p3]
  refine tk1 5 (oi := ?o508) (v := ?v508) ?i508 ?w508 ?y508 ?r508
  case' i508 => simp only [g1, g2, g3]
  case i508 => rfl
  case w508 => kernel_rfl
  case y508 => (intro W hSw; go_simp) <;> with_reducible rfl
  try simp only [Act.put, p1, p2, p3]
  refine tk1 6 (oi := ?o509) (v := ?v509) ?i509 ?w509 ?y509 ?r509
  case' i509 => simp only [g1, g2, g3]
  case i509 => rfl
  case w509 => kernel_rfl
  case y509 => (intro W hSw; go_simp) <;> with_reducible rfl
  try simp only [Act.put, p1, p2, p3]
  refine tk1 7 (oi := ?o510) (v := ?v510) ?i510 ?w510 ?y510 ?r510
  case' i510 => simp only [g1, g2, g3]
  case i510 => rfl
  case w510 => kernel_rfl
  case y510 => (intro W hSw; obtain ⟨q11, q20⟩ := hSw; go_simp) <;> with_reducible rfl
  try simp only [Act.put, p1, p2, p3]
  refine tk1 8 (oi := ?o511) (v := ?v511) ?i511 ?w511 ?y511 ?r511
  case' i511 => simp only [g1, g2, g3]
  case i511 => rfl
  case w511 => kernel_rfl
  case y511 => (intro W hSw; go_simp) <;> with_reducible rfl
  try simp only [Act.put, p1, p2, p3]
  refine tk1 9 (oi := ?o512) (v := ?v512) ?i512 ?w512 ?y512 ?r512
  case' i512 => simp only [g1, g2, g3]
  case i512 => rfl
  case w512 => kernel_rfl
  case y512 => (intro W hSw; go_simp) <;> with_reducible rfl
  try simp only [Act.put, p1, p2, p3]
  refine tk1 10 (oi := ?o513) (v := ?v513) ?i513 ?w513 ?y513 ?r513
  case' i513 => simp only [g1, g2, g3]
  case i513 => rfl
  case w513 => kernel_rfl
  case y513 => (intro W hSw; go_simp) <;> with_reducible rfl
  try simp only [Act.put, p1, p2, p3]
  refine tk1 11 (oi := ?o514) (v := ?v514) ?i514 ?w514 ?y514 ?r514
  case' i514 => simp only [g1, g2, g3]
  case i514 => rfl
  case w514 => kernel_rfl
  case y514 => (intro W hSw; go_simp) <;> with_reducible rfl
  try simp only [Act.put, p1, p2, p3]
  refine tk1 12 (oi := ?o515) (v := ?v515) ?i515 ?w515 ?y515 ?r515
  case' i515 => simp only [g1, g2, g3]
  case i515 => rfl
  case w515 => kernel_rfl
  case y515 => (intro W hSw; obtain ⟨q11, q20⟩ := hSw; go_simp) <;> with_reducible rfl
  try simp only [Act.put, p1, p2, p3]
  refine wpAnyH_ready (rs := [13]) (by kernel_rfl) (by simp) ?_
  refine (AllReadyH.cons (o := ?o516_0) ?i516_0 (fun K' hK => ?g516_0) AllReadyH.nil)
  case' i516_0 => simp only [g1, g2, g3]
  case i516_0 => rfl
  go_simp
  go_at_call 119
  refine (tk_share g2 HT.out HHX.out).mono ?_
  rintro e' W1 (⟨z, ME1, hm, rfl, hT⟩ | ⟨c, ME1, hm, hc, rfl, hT⟩)
  · have E1 := Lib.hid hm
    have HTold := HT
    replace HT := Lib.hid hT
    clear hm hT
    go_wp2_with fail
    refine hK.out _ _ (⟨(HT.out.at 6 rfl), (HT.out.at 15 rfl)⟩) (fun hHeld => ?_)
    clear hK K'
    try simp only [Act.put, p1, p2, p3]
    refine wpAnyH_done (by kernel_rfl) ?_ _
    go_wp2_with fail
    go_end0
    exact .inl ⟨{ s with y := z }, _, by unfold fiMixE; exact (G.to_ok E1.out).trans (rfl), rfl, HT.out⟩
  · unfold Fell
    go_wp2_with fail
    exact ⟨rfl, .inr ⟨_, _, by unfold fiMixE; exact G.to_bad hm, hc, rfl, hT⟩⟩
set_option maxHeartbeats 1000000 in
theorem fi_mixMe (g2 : Good base Q2) {P : FiP} {s : FiS} (h : Tk base g most Q2 L L2 bs B 151 s.y (P.rest s) w0 w) (hx : I64 P.x1) :
    Calls Tryz.prog 98 #[.pointer (some ⟨B, 0, none⟩)] w (Gp (fiMixMe P s most L) (fun _ => .tuple #[]) (fun L' x w' => Tk base g most Q2 L' L2 bs B 151 x.y (P.rest x) w0 w') (fun L' w' => Cs base (PSq base g most) Q2 L' L2 bs w0 w')) := by
  have HT := Lib.hid h
  have HHX := Lib.hid hx
  clear h hx
  go_enter Tryz.func98, Tryz.ntmps98
  replace HT := Lib.hid (HT.out.drew g2)
  refine wp_region_held_drew (S := (fun W => W.cell? ⟨B, 5, none⟩ = some (.int .i64 P.x1) ∧ W.cell? ⟨B, 20, none⟩ = some (.int .i64 (P.m.i 6)))) (by kernel_rfl) (⟨(HT.out.at 0 rfl), (HT.out.at 15 rfl)⟩) (fun hHeld => ?_)
  refine tk1 0 (oi := ?o517) (v := ?v517) ?i517 ?w517 ?y517 ?r517
  case' i517 => simp only [g1, g2, g3]
  case i517 => rfl
  case w517 => kernel_rfl
  case y517 => (intro W hSw; go_simp) <;> with_reducible rfl
  try simp only [Act.put, p1, p2, p3]
  refine tk1 1 (oi := ?o518) (v := ?v518) ?i518 ?w518 ?y518 ?r518
  case' i518 => simp only [g1, g2, g3]
  case i518 => rfl
  case w518 => kernel_rfl
  case y518 => (intro W hSw; go_simp) <;> with_reducible rfl
  try simp only [Act.put, p1, p2, p3]
  refine tk1 2 (oi := ?o519) (v := ?v519) ?i519 ?w519 ?y519 ?r519
  case' i519 => simp only [g1, g2, g3]
  case i519 => rfl
  case w519 => kernel_rfl
  case y519 => (intro W hSw; go_simp) <;> with_reducible rfl
  try simp only [Act.put, p1, p2, p3]
  refine tk1 3 (oi := ?o520) (v := ?v520) ?i520 ?w520 ?y520 ?r520
  case' i520 => simp only [g1, g2, g3]
  case i520 => rfl
  case w520 => kernel_rfl
  case y520 => (intro W hSw; go_simp) <;> with_reducible rfl
  try simp only [Act.put, p1, p2, p3]
  refine tk1 4 (oi := ?o521) (v := ?v521) ?i521 ?w521 ?y521 ?r521
  case' i521 => simp only [g1, g2, g3]
  case i521 => rfl
  case w521 => kernel_rfl
  case y521 => (intro W hSw; go_simp) <;> with_reducible rfl
  try simp only [Act.put, p1, p2, p3]
  refine tk1 5 (oi := ?o522) (v := ?v522) ?i522 ?w522 ?y522 ?r522
  case' i522 => simp only [g1, g2, g3]
  case i522 => rfl
  case w522 => kernel_rfl
  case y522 => (intro W hSw; go_simp) <;> with_reducible rfl
  try simp only [Act.put, p1, p2, p3]
  refine tk1 6 (oi := ?o523) (v := ?v523) ?i523 ?w523 ?y523 ?r523
  case' i523 => simp only [g1, g2, g3]
  case i523 => rfl
  case w523 => kernel_rfl
  case y523 => (intro W hSw; go_simp) <;> with_reducible rfl
  try simp only [Act.put, p1, p2, p3]
  refine tk1 7 (oi := ?o524) (v := ?v524) ?i524 ?w524 ?y524 ?r524
  case' i524 => simp only [g1, g2, g3]
  case i524 => rfl
  case w524 => kernel_rfl
  case y524 => (intro W hSw; obtain ⟨q5, q20⟩ := hSw; go_simp) <;> with_reducible rfl
  try simp only [Act.put, p1, p2, p3]
  refine tk1 8 (oi := ?o525) (v := ?v525) ?i525 ?w525 ?y525 ?r525
  case' i525 => simp only [g1, g2, g3]
  case i525 => rfl
  case w525 => kernel_rfl
  case y525 => (intro W hSw; go_simp) <;> with_reducible rfl
  try simp only [Act.put, p1, p2, p3]
  refine tk1 9 (oi := ?o526) (v := ?v526) ?i526 ?w526 ?y526 ?r526
  case' i526 => simp only [g1, g2, g3]
  case i526 => rfl
  case w526 => kernel_rfl
  case y526 => (intro W hSw; go_simp) <;> with_reducible rfl
  try simp only [Act.put, p1, p2, p3]
  refine tk1 10 (oi := ?o527) (v := ?v527) ?i527 ?w527 ?y527 ?r527
  case' i527 => simp only [g1, g2, g3]
  case i527 => rfl
  case w527 => kernel_rfl
  case y527 => (intro W hSw; go_simp) <;> with_reducible rfl
  try simp only [Act.put, p1, p2, p3]
  refine tk1 11 (oi := ?o528) (v := ?v528) ?i528 ?w528 ?y528 ?r528
  case' i528 => simp only [g1, g2, g3]
  case i528 => rfl
  case w528 => kernel_rfl
  case y528 => (intro W hSw; go_simp) <;> with_reducible rfl
  try simp only [Act.put, p1, p2, p3]
  refine tk1 12 (oi := ?o529) (v := ?v529) ?i529 ?w529 ?y529 ?r529
  case' i529 => simp only [g1, g2, g3]
  case i529 => rfl
  case w529 => kernel_rfl
  case y529 => (intro W hSw; obtain ⟨q5, q20⟩ := hSw; go_simp) <;> with_reducible rfl
  try simp only [Act.put, p1, p2, p3]
  refine wpAnyH_ready (rs := [13]) (by kernel_rfl) (by simp) ?_
  refine (AllReadyH.cons (o := ?o530_0) ?i530_0 (fun K' hK => ?g530_0) AllReadyH.nil)
  case' i530_0 => simp only [g1, g2, g3]
  case i530_0 => rfl
  go_simp
  go_at_call 119
  refine (tk_share g2 HT.out HHX.out).mono ?_
  rintro e' W1 (⟨z, ME1, hm, rfl, hT⟩ | ⟨c, ME1, hm, hc, rfl, hT⟩)
  · have E1 := Lib.hid hm
    have HTold := HT
    replace HT := Lib.hid hT
    clear hm hT
    go_wp2_with fail
    refine hK.out _ _ (⟨(HT.out.at 0 rfl), (HT.out.at 15 rfl)⟩) (fun hHeld => ?_)
    clear hK K'
    try simp only [Act.put, p1, p2, p3]
    refine wpAnyH_done (by kernel_rfl) ?_ _
    go_wp2_with fail
    go_end0
    exact .inl ⟨{ s with y := z }, _, by unfold fiMixMe; exact (G.to_ok E1.out).trans (rfl), rfl, HT.out⟩
  · unfold Fell
    go_wp2_with fail
    exact ⟨rfl, .inr ⟨_, _, by unfold fiMixMe; exact G.to_bad hm, hc, rfl, hT⟩⟩
set_option maxHeartbeats 1000000 in
theorem fi_unwrapSecret (g2 : Good base Q2) {P : FiP} {s : FiS} (h : Tk base g most Q2 L L2 bs B 151 s.y (P.rest s) w0 w) (hx : I64 P.p.ek) (hy : I64 (P.m.i 8)) :
    Calls Tryz.prog 99 #[.pointer (some ⟨B, 0, none⟩)] w (Gp (fiUnwrap P s most L) (fun _ => .tuple #[]) (fun L' x w' => Tk base g most Q2 L' L2 bs B 151 x.y (P.rest x) w0 w') (fun L' w' => Cs base (PSq base g most) Q2 L' L2 bs w0 w')) := by
  have HT := Lib.hid h
  have HHX := Lib.hid hx
  have HHY := Lib.hid hy
  clear h hx hy
  go_enter Tryz.func99, Tryz.ntmps99
  replace HT := Lib.hid (HT.out.drew g2)
  refine wp_region_held_drew (S := (fun W => W.cell? ⟨B, 12, none⟩ = some (.int .i64 P.p.ek) ∧ W.cell? ⟨B, 22, none⟩ = some (.int .i64 (P.m.i 8)))) (by kernel_rfl) (⟨(HT.out.at 7 rfl), (HT.out.at 17 rfl)⟩) (fun hHeld => ?_)
  refine tk1 0 (oi := ?o531) (v := ?v531) ?i531 ?w531 ?y531 ?r531
  case' i531 => simp only [g1, g2, g3]
  case i531 => rfl
  case w531 => kernel_rfl
  case y531 => (intro W hSw; go_simp) <;> with_reducible rfl
  try simp only [Act.put, p1, p2, p3]
  refine tk1 1 (oi := ?o532) (v := ?v532) ?i532 ?w532 ?y532 ?r532
  case' i532 => simp only [g1, g2, g3]
  case i532 => rfl
  case w532 => kernel_rfl
  case y532 => (intro W hSw; go_simp) <;> with_reducible rfl
  try simp only [Act.put, p1, p2, p3]
  refine tk1 2 (oi := ?o533) (v := ?v533) ?i533 ?w533 ?y533 ?r533
  case' i533 => simp only [g1, g2, g3]
  case i533 => rfl
  case w533 => kernel_rfl
  case y533 => (intro W hSw; go_simp) <;> with_reducible rfl
  try simp only [Act.put, p1, p2, p3]
  refine tk1 3 (oi := ?o534) (v := ?v534) ?i534 ?w534 ?y534 ?r534
  case' i534 => simp only [g1, g2, g3]
  case i534 => rfl
  case w534 => kernel_rfl
  case y534 => (intro W hSw; go_simp) <;> with_reducible rfl
  try simp only [Act.put, p1, p2, p3]
  refine tk1 4 (oi := ?o535) (v := ?v535) ?i535 ?w535 ?y535 ?r535
  case' i535 => simp only [g1, g2, g3]
  case i535 => rfl
  case w535 => kernel_rfl
  case y535 => (intro W hSw; go_simp) <;> with_reducible rfl
  try simp only [Act.put, p1, p2, p3]
  refine tk1 5 (oi := ?o536) (v := ?v536) ?i536 ?w536 ?y536 ?r536
  case' i536 => simp only [g1, g2, g3]
  case i536 => rfl
  case w536 => kernel_rfl
  case y536 => (intro W hSw; go_simp) <;> with_reducible rfl
  try simp only [Act.put, p1, p2, p3]
  refine tk1 6 (oi := ?o537) (v := ?v537) ?i537 ?w537 ?y537 ?r537
  case' i537 => simp only [g1, g2, g3]
  case i537 => rfl
  case w537 => kernel_rfl
  case y537 => (intro W hSw; go_simp) <;> with_reducible rfl
  try simp only [Act.put, p1, p2, p3]
  refine tk1 7 (oi := ?o538) (v := ?v538) ?i538 ?w538 ?y538 ?r538
  case' i538 => simp only [g1, g2, g3]
  case i538 => rfl
  case w538 => kernel_rfl
  case y538 => (intro W hSw; obtain ⟨q12, q22⟩ := hSw; go_simp) <;> with_reducible rfl
  try simp only [Act.put, p1, p2, p3]
  refine tk1 8 (oi := ?o539) (v := ?v539) ?i539 ?w539 ?y539 ?r539
  case' i539 => simp only [g1, g2, g3]
  case i539 => rfl
  case w539 => kernel_rfl
  case y539 => (intro W hSw; go_simp) <;> with_reducible rfl
  try simp only [Act.put, p1, p2, p3]
  refine tk1 9 (oi := ?o540) (v := ?v540) ?i540 ?w540 ?y540 ?r540
  case' i540 => simp only [g1, g2, g3]
  case i540 => rfl
  case w540 => kernel_rfl
  case y540 => (intro W hSw; go_simp) <;> with_reducible rfl
  try simp only [Act.put, p1, p2, p3]
  refine tk1 10 (oi := ?o541) (v := ?v541) ?i541 ?w541 ?y541 ?r541
  case' i541 => simp only [g1, g2, g3]
  case i541 => rfl
  case w541 => kernel_rfl
  case y541 => (intro W hSw; go_simp) <;> with_reducible rfl
  try simp only [Act.put, p1, p2, p3]
  refine tk1 11 (oi := ?o542) (v := ?v542) ?i542 ?w542 ?y542 ?r542
  case' i542 => simp only [g1, g2, g3]
  case i542 => rfl
  case w542 => kernel_rfl
  case y542 => (intro W hSw; go_simp) <;> with_reducible rfl
  try simp only [Act.put, p1, p2, p3]
  refine tk1 12 (oi := ?o543) (v := ?v543) ?i543 ?w543 ?y543 ?r543
  case' i543 => simp only [g1, g2, g3]
  case i543 => rfl
  case w543 => kernel_rfl
  case y543 => (intro W hSw; obtain ⟨q12, q22⟩ := hSw; go_simp) <;> with_reducible rfl
  try simp only [Act.put, p1, p2, p3]
  refine wpAnyH_ready (rs := [13]) (by kernel_rfl) (by simp) ?_
  refine (AllReadyH.cons (o := ?o544_0) ?i544_0 (fun K' hK => ?g544_0) AllReadyH.nil)
  case' i544_0 => simp only [g1, g2, g3]
  case i544_0 => rfl
  go_simp
  go_at_call 137
  refine (tk_unwrap g2 HT.out HHX.out HHY.out).mono ?_
  rintro e' W1 (⟨z, ME1, hm, rfl, hT⟩ | ⟨c, ME1, hm, hc, rfl, hT⟩)
  · have E1 := Lib.hid hm
    have HTold := HT
    replace HT := Lib.hid hT
    clear hm hT
    go_wp2_with fail
    refine hK.out _ _ (⟨(HT.out.at 7 rfl), (HT.out.at 17 rfl)⟩) (fun hHeld => ?_)
    clear hK K'
    try simp only [Act.put, p1, p2, p3]
    refine wpAnyH_done (by kernel_rfl) ?_ _
    go_wp2_with fail
    go_end0
    exact .inl ⟨{ s with y := z }, _, by unfold fiUnwrap; exact (G.to_ok E1.out).trans (rfl), rfl, HT.out⟩
  · unfold Fell
    go_wp2_with fail
    exact ⟨rfl, .inr ⟨_, _, by unfold fiUnwrap; exact G.to_bad hm, hc, rfl, hT⟩⟩
set_option maxHeartbeats 1000000 in
theorem fi_end (g2 : Good base Q2) {P : FiP} {s : FiS} (h : Tk base g most Q2 L L2 bs B 151 s.y (P.rest s) w0 w)  :
    Calls Tryz.prog 101 #[.pointer (some ⟨B, 0, none⟩)] w (Gp (fiEnd P s most L) (fun _ => .tuple #[]) (fun L' x w' => Tk base g most Q2 L' L2 bs B 151 x.y (P.rest x) w0 w') (fun L' w' => Cs base (PSq base g most) Q2 L' L2 bs w0 w')) := by
  have HT := Lib.hid h
  clear h
  go_enter Tryz.func101, Tryz.ntmps101
  go_wp2_with fail
  refine (tk_split g2 HT.out).mono ?_
  rintro e' W1 (⟨⟨k1, k2⟩, M1, hm, rfl, hT⟩ | ⟨c, M1, hm, hc, rfl, hT⟩)
  · have E1 := Lib.hid hm
    replace HT := Lib.hid hT
    clear hm hT
    have ds1 := HT.out.cl 28 (by decide) rfl
    have df1 := HT.out.fz 28
    have ds2 := HT.out.cl 29 (by decide) rfl
    have df2 := HT.out.fz 29
    have ds0 := HT.out.cl 27 (by decide) rfl
    have df0 := HT.out.fz 27
    have c3 := HT.out.c3
    go_wp2_with fail
    replace HT := Lib.hid (((HT.out.put g2 23 (.int .i64 k1)).put g2 24 (.int .i64 k2)).put g2 22 (.int .i64 s.y.H))
    go_end0
    exact .inl ⟨{ s with h := s.y.H, send := k1, recv := k2 }, _, by unfold fiEnd; exact (G.to_ok E1.out).trans rfl, rfl, HT.out⟩
  · unfold Fell
    go_wp2_with fail
    exact ⟨rfl, .inr ⟨_, _, by unfold fiEnd; exact G.to_bad hm, hc, rfl, hT⟩⟩
set_option maxHeartbeats 1000000 in
theorem fi_openVersion (g2 : Good base Q2) {P : FiP} {s : FiS} (h : Tk base g most Q2 L L2 bs B 151 s.y (P.rest s) w0 w) (hx : I64 (P.m.i 9)) :
    Calls Tryz.prog 100 #[.pointer (some ⟨B, 0, none⟩)] w (Gp (fiVersion P s most L) (fun _ => .tuple #[]) (fun L' x w' => Tk base g most Q2 L' L2 bs B 151 x.y (P.rest x) w0 w') (fun L' w' => Cs base (PSq base g most) Q2 L' L2 bs w0 w')) := by
  have HT := Lib.hid h
  have HHX := Lib.hid hx
  clear h hx
  go_enter Tryz.func100, Tryz.ntmps100
  go_wp2_with fail
  replace HT := Lib.hid (HT.out.drew g2)
  refine wp_region_held_drew (S := (fun W => W.cell? ⟨B, 23, none⟩ = some (.int .i64 (P.m.i 9)))) (by kernel_rfl) ((HT.out.at 18 rfl)) (fun hHeld => ?_)
  refine tk1 0 (oi := ?o484) (v := ?v484) ?i484 ?w484 ?y484 ?r484
  case' i484 => simp only [g1, g2, g3]
  case i484 => rfl
  case w484 => kernel_rfl
  case y484 => (intro W hSw; go_simp) <;> with_reducible rfl
  try simp only [Act.put, p1, p2, p3]
  refine tk1 1 (oi := ?o485) (v := ?v485) ?i485 ?w485 ?y485 ?r485
  case' i485 => simp only [g1, g2, g3]
  case i485 => rfl
  case w485 => kernel_rfl
  case y485 => (intro W hSw; go_simp) <;> with_reducible rfl
  try simp only [Act.put, p1, p2, p3]
  refine tk1 2 (oi := ?o486) (v := ?v486) ?i486 ?w486 ?y486 ?r486
  case' i486 => simp only [g1, g2, g3]
  case i486 => rfl
  case w486 => kernel_rfl
  case y486 => (intro W hSw; go_simp) <;> with_reducible rfl
  try simp only [Act.put, p1, p2, p3]
  refine tk1 3 (oi := ?o487) (v := ?v487) ?i487 ?w487 ?y487 ?r487
  case' i487 => simp only [g1, g2, g3]
  case i487 => rfl
  case w487 => kernel_rfl
  case y487 => (intro W hSw; go_simp) <;> with_reducible rfl
  try simp only [Act.put, p1, p2, p3]
  refine tk1 4 (oi := ?o488) (v := ?v488) ?i488 ?w488 ?y488 ?r488
  case' i488 => simp only [g1, g2, g3]
  case i488 => rfl
  case w488 => kernel_rfl
  case y488 => (intro W hSw; go_simp) <;> with_reducible rfl
  try simp only [Act.put, p1, p2, p3]
  refine tk1 5 (oi := ?o489) (v := ?v489) ?i489 ?w489 ?y489 ?r489
  case' i489 => simp only [g1, g2, g3]
  case i489 => rfl
  case w489 => kernel_rfl
  case y489 => (intro W hSw; go_simp) <;> with_reducible rfl
  try simp only [Act.put, p1, p2, p3]
  refine tk1 6 (oi := ?o490) (v := ?v490) ?i490 ?w490 ?y490 ?r490
  case' i490 => simp only [g1, g2, g3]
  case i490 => rfl
  case w490 => kernel_rfl
  case y490 => (intro W hSw; go_simp) <;> with_reducible rfl
  try simp only [Act.put, p1, p2, p3]
  refine tk1 7 (oi := ?o491) (v := ?v491) ?i491 ?w491 ?y491 ?r491
  case' i491 => simp only [g1, g2, g3]
  case i491 => rfl
  case w491 => kernel_rfl
  case y491 => (intro W hSw; have q := hSw; go_simp) <;> with_reducible rfl
  try simp only [Act.put, p1, p2, p3]
  refine wpAnyH_ready (rs := [8]) (by kernel_rfl) (by simp) ?_
  refine (AllReadyH.cons (o := ?o492_0) ?i492_0 (fun K' hK => ?g492_0) AllReadyH.nil)
  case' i492_0 => simp only [g1, g2, g3]
  case i492_0 => rfl
  go_simp
  go_at_call 141
  refine (tk_opentext g2 HT.out HHX.out).mono ?_
  rintro e' W1 (⟨⟨z, t⟩, M1, hm, rfl, hT, hsz⟩ | ⟨c, M1, hm, hc, rfl, hT⟩)
  · obtain ⟨p, hu, hk, hs⟩ := text_inv hm
    have HU := Lib.hid (And.intro hu (And.intro hk hs))
    replace HT := Lib.hid hT
    clear hm hT hsz hu hk hs
    go_wp2_with fail
    refine hK.out _ _ ((HT.out.at 18 rfl)) (fun hHeld => ?_)
    clear hK K'
    try simp only [Act.put, p1, p2, p3]
    refine tk1 9 (oi := ?o493) (v := ?v493) ?i493 ?w493 ?y493 ?r493
    case' i493 => simp only [g1, g2, g3]
    case i493 => rfl
    case w493 => kernel_rfl
    case y493 => (intro W hSw; go_simp) <;> with_reducible rfl
    try simp only [Act.put, p1, p2, p3]
    refine wpAnyH_done (by kernel_rfl) ?_ _
    by_cases hl : t.size = 1
    · obtain ⟨c, rfl⟩ := one_byte hl
      have hne : (((ByteArray.size ⟨#[c]⟩ : Nat) : Int) != 1) = false := rfl
      have c13 := HT.out.at 8 rfl
      clear hl
      go_wp2_with fail
      refine (Tryz.strings_Contains_one P.p.offer c _).mono ?_
      rintro e' W2 ⟨rfl, rfl⟩
      by_cases hi : c ∈ P.p.offer.data.toList
      · have hd : decide (0 ≤ Lib.indexByte P.p.offer.data.toList c) = true := by simpa using (index_mem c _).2 hi
        have HG : Hid (fiVersion P s most L = (.ok { s with y := z, version := (c.toNat : Int) }, M1)) := Lib.hid (ver_ok HU.out.1 HU.out.2.1 HU.out.2.2 hi)
        rw [hd]
        have dst := HT.out.at 25 rfl
        have dfz := HT.out.fz 30
        clear hi hd
        go_wp2_with fail
        go_end0
        have HWR : Hid (wrap64 (c.toNat : Int) = (c.toNat : Int)) := Lib.hid (by have := c.toNat_lt; unfold wrap64; omega)
        have h8 : Tk base g most Q2 M1 L2 bs B 151 z ((P.rest s).set 25 (.int .i64 (c.toNat : Int))) w0 (W2.setCell ⟨B, 30, none⟩ (.int .i64 (wrap64 (c.toNat : Int)))) := by rw [HWR.out]; exact HT.out.put g2 25 _
        exact .inl ⟨_, _, HG.out, rfl, h8⟩
      · have hd : decide (0 ≤ Lib.indexByte P.p.offer.data.toList c) = false := by simpa using fun q => hi ((index_mem c _).1 q)
        have HG : Hid (fiVersion P s most L = (.error 11, M1)) := Lib.hid (ver_none HU.out.1 HU.out.2.1 HU.out.2.2 hi)
        rw [hd]
        clear hi hd
        go_wp2_with fail
        exact ⟨rfl, .inr ⟨_, _, HG.out, by decide, rfl, HT.out.fall⟩⟩
    · have hne : (((t.size : Nat) : Int) != 1) = true := by simpa using fun q : (t.size : Int) = 1 => hl (by omega)
      have HG : Hid (fiVersion P s most L = (.error 3, M1)) := Lib.hid (ver_no HU.out.1 HU.out.2.1 (by rw [HU.out.2.2]; exact hl))
      clear hl
      go_wp2_with fail
      exact ⟨rfl, .inr ⟨_, _, HG.out, by decide, rfl, HT.out.fall⟩⟩
  · have HG := Lib.hid (ver_bad (P := P) (s := s) hm)
    unfold Fell
    go_wp2_with fail
    exact ⟨rfl, .inr ⟨_, _, HG.out, hc, rfl, hT⟩⟩
end
end Go.Proofs.YtgeonppckeiceaaGreatDoor
