/- The steps of Open that look for the peer, and at the stamp (by tools/stage17/steps.py). -/
import Derived.Test.YtgeonppckeiceaaGreatDoorGp32
namespace Go.Proofs.YtgeonppckeiceaaGreatDoor
open Go.RowKit
set_option linter.unusedVariables false
set_option linter.unusedSimpArgs false
set_option maxRecDepth 20000
theorem RowB.cell {bs : List (Nat × Obj)} {a : Option Addr} {ps : List Pr} (h : RowB bs a ps) {i : Nat} (hi : i < ps.length) {w : World} (hw : ∀ k o, (k, o) ∈ bs → w.heap[k]? = some o) :
    ∃ b off, a = some ⟨b, off, none⟩ ∧ ∀ w : World, (∀ k o, (k, o) ∈ bs → w.heap[k]? = some o) → w.cell? ⟨b, off + i * 4, none⟩ = some (.int .i64 (ps.getD i zeroPr).dh) ∧ w.cell? ⟨b, off + i * 4 + 1, none⟩ = some (.int .i64 (ps.getD i zeroPr).kem) ∧ w.cell? ⟨b, off + i * 4 + 2, none⟩ = some (.int .i64 (ps.getD i zeroPr).k0) ∧ w.cell? ⟨b, off + i * 4 + 2 + 1, none⟩ = some (.int .i64 (ps.getD i zeroPr).k1) := by
  obtain ⟨b, off, hr⟩ := h w hw
  obtain ⟨ha, _⟩ := hr i hi
  refine ⟨b, off, ha, fun u hu => ?_⟩
  obtain ⟨b2, off2, hr2⟩ := h u hu
  obtain ⟨ha2, h1, h2, h3, h4⟩ := hr2 i hi
  rw [ha] at ha2
  injection ha2 with e
  injection e with e1 e2 e3
  subst e1 e2
  exact ⟨h1, h2, h3, h4⟩
theorem text_inv {y z : Sy} {c : Int} {t : ByteArray} {L M : List Tm} {most : Int} (h : textG y c most L = (.ok (z, t), M)) : ∃ p, unsealG y c most L = (.ok (z, p), M) ∧ (getT M p).1.K = 1 ∧ (getT M p).1.S = t := by
  obtain ⟨⟨z1, p⟩, L1, h1, h2⟩ := G.to_inv h
  simp only [] at h2
  by_cases hk : (getT L1 p).1.K = 1
  · rw [if_pos hk] at h2
    injection h2 with h3 h4
    injection h3 with h3
    injection h3 with h5 h6
    subst h4 h5
    exact ⟨p, h1, hk, h6⟩
  · rw [if_neg hk] at h2
    injection h2 with h3 h4
    cases h3
theorem text_no {y : Sy} {c e : Int} {L M : List Tm} {most : Int} (h : textG y c most L = (.error e, M)) : unsealG y c most L = (.error e, M) ∨ ∃ z p, unsealG y c most L = (.ok (z, p), M) ∧ (getT M p).1.K ≠ 1 ∧ e = 3 := by
  unfold textG G.to at h
  cases hu : unsealG y c most L with
  | mk r L1 =>
    rw [hu] at h
    cases r with
    | error e2 =>
      simp only [] at h
      injection h with h3 h4
      injection h3 with h3
      subst h3 h4
      exact .inl rfl
    | ok q =>
      obtain ⟨z, p⟩ := q
      simp only [] at h
      by_cases hk : (getT L1 p).1.K = 1
      · rw [if_pos hk] at h
        injection h with h3 h4
        cases h3
      · rw [if_neg hk] at h
        injection h with h3 h4
        injection h3 with h3
        subst h4
        exact .inr ⟨z, p, rfl, hk, h3.symm⟩
theorem stamp_ok {P : OpP} {s : OpS} {z : Sy} {p : Int} {L M : List Tm} {most : Int} {N Pl : Nat} (h : unsealG s.y (P.m.i 10) most L = (.ok (z, p), M)) (hk : (getT M p).1.K = 1) (hg : Ms.getA (getT M p).1.S.data.toList 0 = (N, Pl, 0)) (hl : (Pl : Int) = (getT M p).1.S.size) :
    opStamp P s most L = (.ok { s with y := z, stamp := (N : Int) }, M) := by
  unfold opStamp
  rw [G.to_ok h]
  have e : stampF M p = some N := by unfold stampF; rw [hg]; exact if_pos ⟨hk, rfl, hl⟩
  unfold stampG
  rw [e]
theorem stamp_no {P : OpP} {s : OpS} {z : Sy} {p : Int} {L M : List Tm} {most : Int} (h : unsealG s.y (P.m.i 10) most L = (.ok (z, p), M)) (hk : (getT M p).1.K = 1) (hg : ¬ ((Ms.getA (getT M p).1.S.data.toList 0).2.2 = 0 ∧ ((Ms.getA (getT M p).1.S.data.toList 0).2.1 : Int) = (getT M p).1.S.size)) :
    opStamp P s most L = (.error 3, M) := by
  unfold opStamp
  rw [G.to_ok h]
  have e : stampF M p = none := by unfold stampF; exact if_neg (fun q => hg q.2)
  unfold stampG
  rw [e]
theorem stamp_bad {P : OpP} {s : OpS} {e : Int} {L M : List Tm} {most : Int} (h : textG s.y (P.m.i 10) most L = (.error e, M)) : opStamp P s most L = (.error e, M) := by
  rcases text_no h with h1 | ⟨z, p, h1, hk, he⟩
  · exact G.to_bad h1
  · subst he
    unfold opStamp
    rw [G.to_ok h1]
    have e : stampF M p = none := by unfold stampF; exact if_neg (fun q => hk q.1)
    unfold stampG
    rw [e]
section
variable {base g B : Nat} {most : Int} {Q2 : (Nat → Prop) → List Tm → World → Prop} {L L' L2 : List Tm} {bs : List (Nat × Obj)} {w0 w w' : World}
set_option maxHeartbeats 1000000 in
theorem op_findPeer (g2 : Good base Q2) {P : OpP} {s : OpS} (h : Tk base g most Q2 L L2 bs B 140 s.y (P.rest s) w0 w) (hn : P.n = P.ps.length) (hm : P.n ≤ 1000000) (hr : RowB bs P.a P.ps) :
    Calls Tryz.prog 77 #[.pointer (some ⟨B, 0, none⟩)] w (Gp (opFind P s most L) (fun _ => .tuple #[]) (fun L' x w' => Tk base g most Q2 L' L2 bs B 140 x.y (P.rest x) w0 w' ∧ ∃ i : Nat, x.peer = (i : Int) ∧ i < P.ps.length) (fun L' w' => Cs base (PSq base g most) Q2 L' L2 bs w0 w')) := by
  have HT := Lib.hid h
  have HHN := Lib.hid hn
  have HHM := Lib.hid hm
  have HHR := Lib.hid hr
  clear h hn hm hr
  have hmf : ∀ (fn : Fn) (first cap : Array Value) (w : World), (Instr.makeFunc fn first cap).run Tryz.prog w = .ok (.func fn first cap) w := fun _ _ _ _ => rfl
  rcases who_idx s.pub P.ps with ⟨i, hw, hi, hl⟩ | ⟨hw, hi⟩
  · have HI := Lib.hid hi
    have HL := Lib.hid hl
    have HG : Hid (opFind P s most L = (.ok { s with peer := (i : Int) }, L)) := Lib.hid (by unfold opFind; rw [hw])
    clear hw hi hl
    obtain ⟨hbx, hbn⟩ := HT.out.box g2 #[.pointer (some ⟨B, 0, none⟩)] 212 (b := w.heap.size) rfl
    replace HT := Lib.hid hbx
    clear hbx hbn
    go_enter Tryz.func77, Tryz.ntmps77
    go_wp2_with fail
    replace HT := Lib.hid (HT.out.drew g2)
    refine wp_region_held_drew (S := (fun W => W.cell? ⟨w.heap.size, 0, none⟩ = some (.pointer (some ⟨B, 0, none⟩)) ∧ W.cell? ⟨B, 7, none⟩ = some (.slice P.a P.n P.cap))) (by kernel_rfl) (⟨(HT.out.boxc List.mem_cons_self 0 rfl).1, HT.out.at 2 rfl⟩) (fun hHeld => ?_)
    refine tk1 0 (oi := ?o306) (v := ?v306) ?i306 ?w306 ?y306 ?r306
    case' i306 => simp only [g1, g2, g3]
    case i306 => rfl
    case w306 => kernel_rfl
    case y306 => (intro W hSw; obtain ⟨qc, q7⟩ := hSw; go_simp) <;> with_reducible rfl
    try simp only [Act.put, p1, p2, p3]
    refine tk1 1 (oi := ?o307) (v := ?v307) ?i307 ?w307 ?y307 ?r307
    case' i307 => simp only [g1, g2, g3]
    case i307 => rfl
    case w307 => kernel_rfl
    case y307 => (intro W hSw; obtain ⟨qc, q7⟩ := hSw; go_simp) <;> with_reducible rfl
    try simp only [Act.put, p1, p2, p3]
    refine tk1 2 (oi := ?o308) (v := ?v308) ?i308 ?w308 ?y308 ?r308
    case' i308 => simp only [g1, g2, g3]
    case i308 => rfl
    case w308 => kernel_rfl
    case y308 => (intro W hSw; go_simp) <;> with_reducible rfl
    try simp only [Act.put, p1, p2, p3]
    refine tk1 3 (oi := ?o309) (v := ?v309) ?i309 ?w309 ?y309 ?r309
    case' i309 => simp only [g1, g2, g3]
    case i309 => rfl
    case w309 => kernel_rfl
    case y309 => (intro W hSw; go_simp) <;> with_reducible rfl
    try simp only [Act.put, p1, p2, p3]
    refine tk1 4 (oi := ?o310) (v := ?v310) ?i310 ?w310 ?y310 ?r310
    case' i310 => simp only [g1, g2, g3]
    case i310 => rfl
    case w310 => kernel_rfl
    case y310 => (intro W hSw; obtain ⟨qc, q7⟩ := hSw; go_simp) <;> with_reducible rfl
    try simp only [Act.put, p1, p2, p3]
    refine tk1 5 (oi := ?o311) (v := ?v311) ?i311 ?w311 ?y311 ?r311
    case' i311 => simp only [g1, g2, g3]
    case i311 => rfl
    case w311 => kernel_rfl
    case y311 => (intro W hSw; go_simp) <;> with_reducible rfl
    try simp only [Act.put, p1, p2, p3]
    refine wpAnyH_ready (rs := [6]) (by kernel_rfl) (by simp) ?_
    refine (AllReadyH.cons (o := ?o312_0) ?i312_0 (fun K' hK => ?g312_0) AllReadyH.nil)
    case' i312_0 => simp only [g1, g2, g3]
    case i312_0 => rfl
    go_simp
    go_at_call 139
    refine (index_p (pub := s.pub) (B := B) P.a P.n P.cap P.ps _ HHN.out HHM.out (HHR.out _ (fun k o q => HT.out.cs.kept k o (List.mem_cons_of_mem _ (List.mem_cons_of_mem _ q)))) ⟨(HT.out.boxc List.mem_cons_self 0 rfl).1, HT.out.at 26 rfl⟩).mono ?_
    rintro e' W1 ⟨rfl, hb⟩
    replace HT := Lib.hid (HT.out.below g2 hb)
    clear hb
    rw [HI.out]
    go_wp2_with fail
    refine hK.out _ _ (⟨(HT.out.boxc List.mem_cons_self 0 rfl).1, HT.out.at 2 rfl⟩) (fun hHeld => ?_)
    clear hK K'
    try simp only [Act.put, p1, p2, p3]
    refine tk1 7 (oi := ?o313) (v := ?v313) ?i313 ?w313 ?y313 ?r313
    case' i313 => simp only [g1, g2, g3]
    case i313 => rfl
    case w313 => kernel_rfl
    case y313 => (intro W hSw; go_simp) <;> with_reducible rfl
    try simp only [Act.put, p1, p2, p3]
    refine tk1 8 (oi := ?o314) (v := ?v314) ?i314 ?w314 ?y314 ?r314
    case' i314 => simp only [g1, g2, g3]
    case i314 => rfl
    case w314 => kernel_rfl
    case y314 => (intro W hSw; go_simp) <;> with_reducible rfl
    try simp only [Act.put, p1, p2, p3]
    refine tk1 9 (oi := ?o315) (v := ?v315) ?i315 ?w315 ?y315 ?r315
    case' i315 => simp only [g1, g2, g3]
    case i315 => rfl
    case w315 => kernel_rfl
    case y315 => (intro W hSw; go_simp) <;> with_reducible rfl
    try simp only [Act.put, p1, p2, p3]
    refine wpAnyH_ready (rs := [10]) (by kernel_rfl) (by simp) ?_
    refine (AllReadyH.cons (o := ?o316_0) ?i316_0 (fun K' hK => ?g316_0) AllReadyH.nil)
    case' i316_0 => simp only [g1, g2, g3]
    case i316_0 => rfl
    have dst := HT.out.at 21 rfl
    have dfz := HT.out.fz 26
    go_simp
    replace HT := Lib.hid (HT.out.put g2 21 (.int .i64 (i : Int)))
    clear dst dfz
    refine hK.out _ _ (⟨(HT.out.boxc List.mem_cons_self 0 rfl).1, HT.out.at 2 rfl⟩) (fun hHeld => ?_)
    clear hK K'
    try simp only [Act.put, p1, p2, p3]
    refine wpAnyH_done (by kernel_rfl) ?_ _
    have c0 := (HT.out.boxc List.mem_cons_self 0 rfl).1
    have c26 := HT.out.at (v := .int .i64 (i : Int)) 21 rfl
    generalize World.setCell _ _ _ = W2 at HT c0 c26 ⊢
    have hlt : decide ((i : Int) < 0) = false := by simp
    go_wp2_with fail
    go_end0
    exact .inl ⟨_, _, HG.out, rfl, HT.out.unbox0, i, rfl, HL.out⟩
  · have HI := Lib.hid hi
    have HG : Hid (opFind P s most L = (.error 5, L)) := Lib.hid (by unfold opFind; rw [hw])
    clear hw hi
    obtain ⟨hbx, hbn⟩ := HT.out.box g2 #[.pointer (some ⟨B, 0, none⟩)] 212 (b := w.heap.size) rfl
    replace HT := Lib.hid hbx
    clear hbx hbn
    go_enter Tryz.func77, Tryz.ntmps77
    go_wp2_with fail
    replace HT := Lib.hid (HT.out.drew g2)
    refine wp_region_held_drew (S := (fun W => W.cell? ⟨w.heap.size, 0, none⟩ = some (.pointer (some ⟨B, 0, none⟩)) ∧ W.cell? ⟨B, 7, none⟩ = some (.slice P.a P.n P.cap))) (by kernel_rfl) (⟨(HT.out.boxc List.mem_cons_self 0 rfl).1, HT.out.at 2 rfl⟩) (fun hHeld => ?_)
    refine tk1 0 (oi := ?o317) (v := ?v317) ?i317 ?w317 ?y317 ?r317
    case' i317 => simp only [g1, g2, g3]
    case i317 => rfl
    case w317 => kernel_rfl
    case y317 => (intro W hSw; obtain ⟨qc, q7⟩ := hSw; go_simp) <;> with_reducible rfl
    try simp only [Act.put, p1, p2, p3]
    refine tk1 1 (oi := ?o318) (v := ?v318) ?i318 ?w318 ?y318 ?r318
    case' i318 => simp only [g1, g2, g3]
    case i318 => rfl
    case w318 => kernel_rfl
    case y318 => (intro W hSw; obtain ⟨qc, q7⟩ := hSw; go_simp) <;> with_reducible rfl
    try simp only [Act.put, p1, p2, p3]
    refine tk1 2 (oi := ?o319) (v := ?v319) ?i319 ?w319 ?y319 ?r319
    case' i319 => simp only [g1, g2, g3]
    case i319 => rfl
    case w319 => kernel_rfl
    case y319 => (intro W hSw; go_simp) <;> with_reducible rfl
    try simp only [Act.put, p1, p2, p3]
    refine tk1 3 (oi := ?o320) (v := ?v320) ?i320 ?w320 ?y320 ?r320
    case' i320 => simp only [g1, g2, g3]
    case i320 => rfl
    case w320 => kernel_rfl
    case y320 => (intro W hSw; go_simp) <;> with_reducible rfl
    try simp only [Act.put, p1, p2, p3]
    refine tk1 4 (oi := ?o321) (v := ?v321) ?i321 ?w321 ?y321 ?r321
    case' i321 => simp only [g1, g2, g3]
    case i321 => rfl
    case w321 => kernel_rfl
    case y321 => (intro W hSw; obtain ⟨qc, q7⟩ := hSw; go_simp) <;> with_reducible rfl
    try simp only [Act.put, p1, p2, p3]
    refine tk1 5 (oi := ?o322) (v := ?v322) ?i322 ?w322 ?y322 ?r322
    case' i322 => simp only [g1, g2, g3]
    case i322 => rfl
    case w322 => kernel_rfl
    case y322 => (intro W hSw; go_simp) <;> with_reducible rfl
    try simp only [Act.put, p1, p2, p3]
    refine wpAnyH_ready (rs := [6]) (by kernel_rfl) (by simp) ?_
    refine (AllReadyH.cons (o := ?o323_0) ?i323_0 (fun K' hK => ?g323_0) AllReadyH.nil)
    case' i323_0 => simp only [g1, g2, g3]
    case i323_0 => rfl
    go_simp
    go_at_call 139
    refine (index_p (pub := s.pub) (B := B) P.a P.n P.cap P.ps _ HHN.out HHM.out (HHR.out _ (fun k o q => HT.out.cs.kept k o (List.mem_cons_of_mem _ (List.mem_cons_of_mem _ q)))) ⟨(HT.out.boxc List.mem_cons_self 0 rfl).1, HT.out.at 26 rfl⟩).mono ?_
    rintro e' W1 ⟨rfl, hb⟩
    replace HT := Lib.hid (HT.out.below g2 hb)
    clear hb
    rw [HI.out]
    go_wp2_with fail
    refine hK.out _ _ (⟨(HT.out.boxc List.mem_cons_self 0 rfl).1, HT.out.at 2 rfl⟩) (fun hHeld => ?_)
    clear hK K'
    try simp only [Act.put, p1, p2, p3]
    refine tk1 7 (oi := ?o324) (v := ?v324) ?i324 ?w324 ?y324 ?r324
    case' i324 => simp only [g1, g2, g3]
    case i324 => rfl
    case w324 => kernel_rfl
    case y324 => (intro W hSw; go_simp) <;> with_reducible rfl
    try simp only [Act.put, p1, p2, p3]
    refine tk1 8 (oi := ?o325) (v := ?v325) ?i325 ?w325 ?y325 ?r325
    case' i325 => simp only [g1, g2, g3]
    case i325 => rfl
    case w325 => kernel_rfl
    case y325 => (intro W hSw; go_simp) <;> with_reducible rfl
    try simp only [Act.put, p1, p2, p3]
    refine tk1 9 (oi := ?o326) (v := ?v326) ?i326 ?w326 ?y326 ?r326
    case' i326 => simp only [g1, g2, g3]
    case i326 => rfl
    case w326 => kernel_rfl
    case y326 => (intro W hSw; go_simp) <;> with_reducible rfl
    try simp only [Act.put, p1, p2, p3]
    refine wpAnyH_ready (rs := [10]) (by kernel_rfl) (by simp) ?_
    refine (AllReadyH.cons (o := ?o327_0) ?i327_0 (fun K' hK => ?g327_0) AllReadyH.nil)
    case' i327_0 => simp only [g1, g2, g3]
    case i327_0 => rfl
    have dst := HT.out.at 21 rfl
    have dfz := HT.out.fz 26
    go_simp
    replace HT := Lib.hid (HT.out.put g2 21 (.int .i64 (-1)))
    clear dst dfz
    refine hK.out _ _ (⟨(HT.out.boxc List.mem_cons_self 0 rfl).1, HT.out.at 2 rfl⟩) (fun hHeld => ?_)
    clear hK K'
    try simp only [Act.put, p1, p2, p3]
    refine wpAnyH_done (by kernel_rfl) ?_ _
    have c0 := (HT.out.boxc List.mem_cons_self 0 rfl).1
    have c26 := HT.out.at (v := .int .i64 (-1)) 21 rfl
    generalize World.setCell _ _ _ = W2 at HT c0 c26 ⊢
    go_wp2_with fail
    exact ⟨rfl, .inr ⟨_, _, HG.out, by decide, rfl, HT.out.unbox0.fall⟩⟩
set_option maxHeartbeats 1000000 in
theorem op_mixPsk (g2 : Good base Q2) {P : OpP} {s : OpS} (h : Tk base g most Q2 L L2 bs B 140 s.y (P.rest s) w0 w) (hs : P.m.i 4 = 0 ∨ P.m.i 4 = 1) (hn : P.n = P.ps.length) (hm : P.n ≤ 1000000) (hr : RowB bs P.a P.ps) (hw : ∀ p, p ∈ P.ps → p.Wf) (hi : ∃ i : Nat, s.peer = (i : Int) ∧ i < P.ps.length) :
    Calls Tryz.prog 79 #[.pointer (some ⟨B, 0, none⟩)] w (Gp (opPsk P s most L) (fun _ => .tuple #[]) (fun L' x w' => Tk base g most Q2 L' L2 bs B 140 x.y (P.rest x) w0 w') (fun L' w' => Cs base (PSq base g most) Q2 L' L2 bs w0 w')) := by
  have HT := Lib.hid h
  have HHS := Lib.hid hs
  have HHN := Lib.hid hn
  have HHM := Lib.hid hm
  have HHR := Lib.hid hr
  have HHW := Lib.hid hw
  have HHI := Lib.hid hi
  clear h hs hn hm hr hw hi
  obtain ⟨i, hi, hl⟩ := HHI.out
  obtain ⟨b, off, ha, hcell⟩ := HHR.out.cell hl (fun k o q => HT.out.cs.kept k o (List.mem_cons_of_mem _ q))
  have HA := Lib.hid ha
  have HCELL := Lib.hid hcell
  have HPI := Lib.hid hi
  have HWF : Hid ((P.ps.getD i zeroPr).Wf) := Lib.hid (by rw [show P.ps.getD i zeroPr = P.ps[i] by simp [List.getD, hl]]; exact HHW.out _ (List.getElem_mem hl))
  have hn1 : i < P.n := by rw [HHN.out]; exact hl
  have hn2 : (i : Int) < (P.n : Int) := by omega
  have hn3 : (P.n : Int) ≤ 1000000 := by have := HHM.out; omega
  have hi2 : decide (0 ≤ (i : Int)) = true := by simp
  clear ha hcell hi hl
  rcases HHS.out with q | q
  · have HSL : Hid (P.m.i 4 = 0) := Lib.hid q
    have HK : Hid (I64 (P.ps.getD i zeroPr).k0) := Lib.hid (HWF.out.2.2.1)
    have HGE : Hid (opPsk P s most L = ((turnG s.y (P.ps.getD i zeroPr).k0).to fun y => .of { s with y := y }) most L) := Lib.hid (by unfold opPsk; rw [q, HPI.out, Int.toNat_natCast]; rfl)
    clear q
    go_enter Tryz.func79, Tryz.ntmps79
    replace HT := Lib.hid (HT.out.drew g2)
    refine wp_region_held_drew (S := (fun W => W.cell? ⟨B, 7, none⟩ = some (.slice (some ⟨b, off, none⟩) P.n P.cap) ∧ W.cell? ⟨B, 26, none⟩ = some (.int .i64 (i : Int)) ∧ W.cell? ⟨B, 13, none⟩ = some (.int .i64 0) ∧ W.cell? ⟨b, off + i * 4 + 2, none⟩ = some (.int .i64 (P.ps.getD i zeroPr).k0))) (by kernel_rfl) (⟨(HT.out.at 2 rfl).trans (by rw [HA.out]), (HT.out.at 21 rfl).trans (by rw [HPI.out]), (HT.out.at 8 rfl).trans (by rw [HSL.out]), (HCELL.out _ (fun k o q => HT.out.cs.kept k o (List.mem_cons_of_mem _ q))).2.2.1⟩) (fun hHeld => ?_)
    refine tk1 0 (oi := ?o328) (v := ?v328) ?i328 ?w328 ?y328 ?r328
    case' i328 => simp only [g1, g2, g3]
    case i328 => rfl
    case w328 => kernel_rfl
    case y328 => (intro W hSw; go_simp) <;> with_reducible rfl
    try simp only [Act.put, p1, p2, p3]
    refine tk1 1 (oi := ?o329) (v := ?v329) ?i329 ?w329 ?y329 ?r329
    case' i329 => simp only [g1, g2, g3]
    case i329 => rfl
    case w329 => kernel_rfl
    case y329 => (intro W hSw; go_simp) <;> with_reducible rfl
    try simp only [Act.put, p1, p2, p3]
    refine tk1 2 (oi := ?o330) (v := ?v330) ?i330 ?w330 ?y330 ?r330
    case' i330 => simp only [g1, g2, g3]
    case i330 => rfl
    case w330 => kernel_rfl
    case y330 => (intro W hSw; go_simp) <;> with_reducible rfl
    try simp only [Act.put, p1, p2, p3]
    refine tk1 3 (oi := ?o331) (v := ?v331) ?i331 ?w331 ?y331 ?r331
    case' i331 => simp only [g1, g2, g3]
    case i331 => rfl
    case w331 => kernel_rfl
    case y331 => (intro W hSw; go_simp) <;> with_reducible rfl
    try simp only [Act.put, p1, p2, p3]
    refine tk1 4 (oi := ?o332) (v := ?v332) ?i332 ?w332 ?y332 ?r332
    case' i332 => simp only [g1, g2, g3]
    case i332 => rfl
    case w332 => kernel_rfl
    case y332 => (intro W hSw; go_simp) <;> with_reducible rfl
    try simp only [Act.put, p1, p2, p3]
    refine tk1 5 (oi := ?o333) (v := ?v333) ?i333 ?w333 ?y333 ?r333
    case' i333 => simp only [g1, g2, g3]
    case i333 => rfl
    case w333 => kernel_rfl
    case y333 => (intro W hSw; go_simp) <;> with_reducible rfl
    try simp only [Act.put, p1, p2, p3]
    refine tk1 6 (oi := ?o334) (v := ?v334) ?i334 ?w334 ?y334 ?r334
    case' i334 => simp only [g1, g2, g3]
    case i334 => rfl
    case w334 => kernel_rfl
    case y334 => (intro W hSw; obtain ⟨q7, q26, q13, qr⟩ := hSw; go_simp) <;> with_reducible rfl
    try simp only [Act.put, p1, p2, p3]
    refine tk1 7 (oi := ?o335) (v := ?v335) ?i335 ?w335 ?y335 ?r335
    case' i335 => simp only [g1, g2, g3]
    case i335 => rfl
    case w335 => kernel_rfl
    case y335 => (intro W hSw; go_simp) <;> with_reducible rfl
    try simp only [Act.put, p1, p2, p3]
    refine tk1 8 (oi := ?o336) (v := ?v336) ?i336 ?w336 ?y336 ?r336
    case' i336 => simp only [g1, g2, g3]
    case i336 => rfl
    case w336 => kernel_rfl
    case y336 => (intro W hSw; go_simp) <;> with_reducible rfl
    try simp only [Act.put, p1, p2, p3]
    refine tk1 9 (oi := ?o337) (v := ?v337) ?i337 ?w337 ?y337 ?r337
    case' i337 => simp only [g1, g2, g3]
    case i337 => rfl
    case w337 => kernel_rfl
    case y337 => (intro W hSw; go_simp) <;> with_reducible rfl
    try simp only [Act.put, p1, p2, p3]
    refine tk1 10 (oi := ?o338) (v := ?v338) ?i338 ?w338 ?y338 ?r338
    case' i338 => simp only [g1, g2, g3]
    case i338 => rfl
    case w338 => kernel_rfl
    case y338 => (intro W hSw; go_simp) <;> with_reducible rfl
    try simp only [Act.put, p1, p2, p3]
    refine tk1 11 (oi := ?o339) (v := ?v339) ?i339 ?w339 ?y339 ?r339
    case' i339 => simp only [g1, g2, g3]
    case i339 => rfl
    case w339 => kernel_rfl
    case y339 => (intro W hSw; obtain ⟨q7, q26, q13, qr⟩ := hSw; go_simp) <;> with_reducible rfl
    try simp only [Act.put, p1, p2, p3]
    refine tk1 12 (oi := ?o340) (v := ?v340) ?i340 ?w340 ?y340 ?r340
    case' i340 => simp only [g1, g2, g3]
    case i340 => rfl
    case w340 => kernel_rfl
    case y340 => (intro W hSw; go_simp) <;> with_reducible rfl
    try simp only [Act.put, p1, p2, p3]
    refine tk1 13 (oi := ?o341) (v := ?v341) ?i341 ?w341 ?y341 ?r341
    case' i341 => simp only [g1, g2, g3]
    case i341 => rfl
    case w341 => kernel_rfl
    case y341 => (intro W hSw; go_simp) <;> with_reducible rfl
    try simp only [Act.put, p1, p2, p3]
    refine tk1 14 (oi := ?o342) (v := ?v342) ?i342 ?w342 ?y342 ?r342
    case' i342 => simp only [g1, g2, g3]
    case i342 => rfl
    case w342 => kernel_rfl
    case y342 => (intro W hSw; go_simp) <;> with_reducible rfl
    try simp only [Act.put, p1, p2, p3]
    refine tk1 15 (oi := ?o343) (v := ?v343) ?i343 ?w343 ?y343 ?r343
    case' i343 => simp only [g1, g2, g3]
    case i343 => rfl
    case w343 => kernel_rfl
    case y343 => (intro W hSw; go_simp) <;> with_reducible rfl
    try simp only [Act.put, p1, p2, p3]
    refine tk1 16 (oi := ?o344) (v := ?v344) ?i344 ?w344 ?y344 ?r344
    case' i344 => simp only [g1, g2, g3]
    case i344 => rfl
    case w344 => kernel_rfl
    case y344 => (intro W hSw; obtain ⟨q7, q26, q13, qr⟩ := hSw; go_simp) <;> with_reducible rfl
    try simp only [Act.put, p1, p2, p3]
    refine tk1 17 (oi := ?o345) (v := ?v345) ?i345 ?w345 ?y345 ?r345
    case' i345 => simp only [g1, g2, g3]
    case i345 => rfl
    case w345 => kernel_rfl
    case y345 => (intro W hSw; go_simp) <;> with_reducible rfl
    try simp only [Act.put, p1, p2, p3]
    refine tk1 18 (oi := ?o346) (v := ?v346) ?i346 ?w346 ?y346 ?r346
    case' i346 => simp only [g1, g2, g3]
    case i346 => rfl
    case w346 => kernel_rfl
    case y346 => (intro W hSw; go_simp) <;> with_reducible rfl
    try simp only [Act.put, p1, p2, p3]
    refine tk1 19 (oi := ?o347) (v := ?v347) ?i347 ?w347 ?y347 ?r347
    case' i347 => simp only [g1, g2, g3]
    case i347 => rfl
    case w347 => kernel_rfl
    case y347 => (intro W hSw; go_simp) <;> with_reducible rfl
    try simp only [Act.put, p1, p2, p3]
    refine tk1 20 (oi := ?o348) (v := ?v348) ?i348 ?w348 ?y348 ?r348
    case' i348 => simp only [g1, g2, g3]
    case i348 => rfl
    case w348 => kernel_rfl
    case y348 => (intro W hSw; obtain ⟨q7, q26, q13, qr⟩ := hSw; go_simp) <;> with_reducible rfl
    try simp only [Act.put, p1, p2, p3]
    refine wpAnyH_ready (rs := [21]) (by kernel_rfl) (by simp) ?_
    refine (AllReadyH.cons (o := ?o349_0) ?i349_0 (fun K' hK => ?g349_0) AllReadyH.nil)
    case' i349_0 => simp only [g1, g2, g3]
    case i349_0 => rfl
    go_simp
    go_at_call 122
    refine (tk_mix g2 HT.out HK.out).mono ?_
    rintro e' W1 (⟨z, ME1, hm, rfl, hT⟩ | ⟨c, ME1, hm, hc, rfl, hT⟩)
    · have E1 := Lib.hid hm
      have HTold := HT
      replace HT := Lib.hid hT
      clear hm hT
      go_wp2_with fail
      refine hK.out _ _ (⟨(HT.out.at 2 rfl).trans (by rw [HA.out]), (HT.out.at 21 rfl).trans (by rw [HPI.out]), (HT.out.at 8 rfl).trans (by rw [HSL.out]), (HCELL.out _ (fun k o q => HT.out.cs.kept k o (List.mem_cons_of_mem _ q))).2.2.1⟩) (fun hHeld => ?_)
      clear hK K'
      try simp only [Act.put, p1, p2, p3]
      refine wpAnyH_done (by kernel_rfl) ?_ _
      go_wp2_with fail
      go_end0
      exact .inl ⟨{ s with y := z }, _, (HGE.out).trans ((G.to_ok E1.out).trans (rfl)), rfl, HT.out⟩
    · unfold Fell
      go_wp2_with fail
      exact ⟨rfl, .inr ⟨_, _, (HGE.out).trans (G.to_bad hm), hc, rfl, hT⟩⟩
  · have HSL : Hid (P.m.i 4 = 1) := Lib.hid q
    have HK : Hid (I64 (P.ps.getD i zeroPr).k1) := Lib.hid (HWF.out.2.2.2)
    have HGE : Hid (opPsk P s most L = ((turnG s.y (P.ps.getD i zeroPr).k1).to fun y => .of { s with y := y }) most L) := Lib.hid (by unfold opPsk; rw [q, HPI.out, Int.toNat_natCast]; rfl)
    clear q
    go_enter Tryz.func79, Tryz.ntmps79
    replace HT := Lib.hid (HT.out.drew g2)
    refine wp_region_held_drew (S := (fun W => W.cell? ⟨B, 7, none⟩ = some (.slice (some ⟨b, off, none⟩) P.n P.cap) ∧ W.cell? ⟨B, 26, none⟩ = some (.int .i64 (i : Int)) ∧ W.cell? ⟨B, 13, none⟩ = some (.int .i64 1) ∧ W.cell? ⟨b, off + i * 4 + 2 + 1, none⟩ = some (.int .i64 (P.ps.getD i zeroPr).k1))) (by kernel_rfl) (⟨(HT.out.at 2 rfl).trans (by rw [HA.out]), (HT.out.at 21 rfl).trans (by rw [HPI.out]), (HT.out.at 8 rfl).trans (by rw [HSL.out]), (HCELL.out _ (fun k o q => HT.out.cs.kept k o (List.mem_cons_of_mem _ q))).2.2.2⟩) (fun hHeld => ?_)
    refine tk1 0 (oi := ?o350) (v := ?v350) ?i350 ?w350 ?y350 ?r350
    case' i350 => simp only [g1, g2, g3]
    case i350 => rfl
    case w350 => kernel_rfl
    case y350 => (intro W hSw; go_simp) <;> with_reducible rfl
    try simp only [Act.put, p1, p2, p3]
    refine tk1 1 (oi := ?o351) (v := ?v351) ?i351 ?w351 ?y351 ?r351
    case' i351 => simp only [g1, g2, g3]
    case i351 => rfl
    case w351 => kernel_rfl
    case y351 => (intro W hSw; go_simp) <;> with_reducible rfl
    try simp only [Act.put, p1, p2, p3]
    refine tk1 2 (oi := ?o352) (v := ?v352) ?i352 ?w352 ?y352 ?r352
    case' i352 => simp only [g1, g2, g3]
    case i352 => rfl
    case w352 => kernel_rfl
    case y352 => (intro W hSw; go_simp) <;> with_reducible rfl
    try simp only [Act.put, p1, p2, p3]
    refine tk1 3 (oi := ?o353) (v := ?v353) ?i353 ?w353 ?y353 ?r353
    case' i353 => simp only [g1, g2, g3]
    case i353 => rfl
    case w353 => kernel_rfl
    case y353 => (intro W hSw; go_simp) <;> with_reducible rfl
    try simp only [Act.put, p1, p2, p3]
    refine tk1 4 (oi := ?o354) (v := ?v354) ?i354 ?w354 ?y354 ?r354
    case' i354 => simp only [g1, g2, g3]
    case i354 => rfl
    case w354 => kernel_rfl
    case y354 => (intro W hSw; go_simp) <;> with_reducible rfl
    try simp only [Act.put, p1, p2, p3]
    refine tk1 5 (oi := ?o355) (v := ?v355) ?i355 ?w355 ?y355 ?r355
    case' i355 => simp only [g1, g2, g3]
    case i355 => rfl
    case w355 => kernel_rfl
    case y355 => (intro W hSw; go_simp) <;> with_reducible rfl
    try simp only [Act.put, p1, p2, p3]
    refine tk1 6 (oi := ?o356) (v := ?v356) ?i356 ?w356 ?y356 ?r356
    case' i356 => simp only [g1, g2, g3]
    case i356 => rfl
    case w356 => kernel_rfl
    case y356 => (intro W hSw; obtain ⟨q7, q26, q13, qr⟩ := hSw; go_simp) <;> with_reducible rfl
    try simp only [Act.put, p1, p2, p3]
    refine tk1 7 (oi := ?o357) (v := ?v357) ?i357 ?w357 ?y357 ?r357
    case' i357 => simp only [g1, g2, g3]
    case i357 => rfl
    case w357 => kernel_rfl
    case y357 => (intro W hSw; go_simp) <;> with_reducible rfl
    try simp only [Act.put, p1, p2, p3]
    refine tk1 8 (oi := ?o358) (v := ?v358) ?i358 ?w358 ?y358 ?r358
    case' i358 => simp only [g1, g2, g3]
    case i358 => rfl
    case w358 => kernel_rfl
    case y358 => (intro W hSw; go_simp) <;> with_reducible rfl
    try simp only [Act.put, p1, p2, p3]
    refine tk1 9 (oi := ?o359) (v := ?v359) ?i359 ?w359 ?y359 ?r359
    case' i359 => simp only [g1, g2, g3]
    case i359 => rfl
    case w359 => kernel_rfl
    case y359 => (intro W hSw; go_simp) <;> with_reducible rfl
    try simp only [Act.put, p1, p2, p3]
    refine tk1 10 (oi := ?o360) (v := ?v360) ?i360 ?w360 ?y360 ?r360
    case' i360 => simp only [g1, g2, g3]
    case i360 => rfl
    case w360 => kernel_rfl
    case y360 => (intro W hSw; go_simp) <;> with_reducible rfl
    try simp only [Act.put, p1, p2, p3]
    refine tk1 11 (oi := ?o361) (v := ?v361) ?i361 ?w361 ?y361 ?r361
    case' i361 => simp only [g1, g2, g3]
    case i361 => rfl
    case w361 => kernel_rfl
    case y361 => (intro W hSw; obtain ⟨q7, q26, q13, qr⟩ := hSw; go_simp) <;> with_reducible rfl
    try simp only [Act.put, p1, p2, p3]
    refine tk1 12 (oi := ?o362) (v := ?v362) ?i362 ?w362 ?y362 ?r362
    case' i362 => simp only [g1, g2, g3]
    case i362 => rfl
    case w362 => kernel_rfl
    case y362 => (intro W hSw; go_simp) <;> with_reducible rfl
    try simp only [Act.put, p1, p2, p3]
    refine tk1 13 (oi := ?o363) (v := ?v363) ?i363 ?w363 ?y363 ?r363
    case' i363 => simp only [g1, g2, g3]
    case i363 => rfl
    case w363 => kernel_rfl
    case y363 => (intro W hSw; go_simp) <;> with_reducible rfl
    try simp only [Act.put, p1, p2, p3]
    refine tk1 14 (oi := ?o364) (v := ?v364) ?i364 ?w364 ?y364 ?r364
    case' i364 => simp only [g1, g2, g3]
    case i364 => rfl
    case w364 => kernel_rfl
    case y364 => (intro W hSw; go_simp) <;> with_reducible rfl
    try simp only [Act.put, p1, p2, p3]
    refine tk1 15 (oi := ?o365) (v := ?v365) ?i365 ?w365 ?y365 ?r365
    case' i365 => simp only [g1, g2, g3]
    case i365 => rfl
    case w365 => kernel_rfl
    case y365 => (intro W hSw; go_simp) <;> with_reducible rfl
    try simp only [Act.put, p1, p2, p3]
    refine tk1 16 (oi := ?o366) (v := ?v366) ?i366 ?w366 ?y366 ?r366
    case' i366 => simp only [g1, g2, g3]
    case i366 => rfl
    case w366 => kernel_rfl
    case y366 => (intro W hSw; obtain ⟨q7, q26, q13, qr⟩ := hSw; go_simp) <;> with_reducible rfl
    try simp only [Act.put, p1, p2, p3]
    refine tk1 17 (oi := ?o367) (v := ?v367) ?i367 ?w367 ?y367 ?r367
    case' i367 => simp only [g1, g2, g3]
    case i367 => rfl
    case w367 => kernel_rfl
    case y367 => (intro W hSw; go_simp) <;> with_reducible rfl
    try simp only [Act.put, p1, p2, p3]
    refine tk1 18 (oi := ?o368) (v := ?v368) ?i368 ?w368 ?y368 ?r368
    case' i368 => simp only [g1, g2, g3]
    case i368 => rfl
    case w368 => kernel_rfl
    case y368 => (intro W hSw; go_simp) <;> with_reducible rfl
    try simp only [Act.put, p1, p2, p3]
    refine tk1 19 (oi := ?o369) (v := ?v369) ?i369 ?w369 ?y369 ?r369
    case' i369 => simp only [g1, g2, g3]
    case i369 => rfl
    case w369 => kernel_rfl
    case y369 => (intro W hSw; go_simp) <;> with_reducible rfl
    try simp only [Act.put, p1, p2, p3]
    refine tk1 20 (oi := ?o370) (v := ?v370) ?i370 ?w370 ?y370 ?r370
    case' i370 => simp only [g1, g2, g3]
    case i370 => rfl
    case w370 => kernel_rfl
    case y370 => (intro W hSw; obtain ⟨q7, q26, q13, qr⟩ := hSw; go_simp) <;> with_reducible rfl
    try simp only [Act.put, p1, p2, p3]
    refine wpAnyH_ready (rs := [21]) (by kernel_rfl) (by simp) ?_
    refine (AllReadyH.cons (o := ?o371_0) ?i371_0 (fun K' hK => ?g371_0) AllReadyH.nil)
    case' i371_0 => simp only [g1, g2, g3]
    case i371_0 => rfl
    go_simp
    go_at_call 122
    refine (tk_mix g2 HT.out HK.out).mono ?_
    rintro e' W1 (⟨z, ME1, hm, rfl, hT⟩ | ⟨c, ME1, hm, hc, rfl, hT⟩)
    · have E1 := Lib.hid hm
      have HTold := HT
      replace HT := Lib.hid hT
      clear hm hT
      go_wp2_with fail
      refine hK.out _ _ (⟨(HT.out.at 2 rfl).trans (by rw [HA.out]), (HT.out.at 21 rfl).trans (by rw [HPI.out]), (HT.out.at 8 rfl).trans (by rw [HSL.out]), (HCELL.out _ (fun k o q => HT.out.cs.kept k o (List.mem_cons_of_mem _ q))).2.2.2⟩) (fun hHeld => ?_)
      clear hK K'
      try simp only [Act.put, p1, p2, p3]
      refine wpAnyH_done (by kernel_rfl) ?_ _
      go_wp2_with fail
      go_end0
      exact .inl ⟨{ s with y := z }, _, (HGE.out).trans ((G.to_ok E1.out).trans (rfl)), rfl, HT.out⟩
    · unfold Fell
      go_wp2_with fail
      exact ⟨rfl, .inr ⟨_, _, (HGE.out).trans (G.to_bad hm), hc, rfl, hT⟩⟩
set_option maxHeartbeats 1000000 in
theorem op_openStamp (g2 : Good base Q2) {P : OpP} {s : OpS} (h : Tk base g most Q2 L L2 bs B 140 s.y (P.rest s) w0 w) (hx : I64 (P.m.i 10)) :
    Calls Tryz.prog 80 #[.pointer (some ⟨B, 0, none⟩)] w (Gp (opStamp P s most L) (fun _ => .tuple #[]) (fun L' x w' => Tk base g most Q2 L' L2 bs B 140 x.y (P.rest x) w0 w') (fun L' w' => Cs base (PSq base g most) Q2 L' L2 bs w0 w')) := by
  have HT := Lib.hid h
  have HHX := Lib.hid hx
  clear h hx
  go_enter Tryz.func80, Tryz.ntmps80
  go_wp2_with fail
  replace HT := Lib.hid (HT.out.drew g2)
  refine wp_region_held_drew (S := (fun W => W.cell? ⟨B, 19, none⟩ = some (.int .i64 (P.m.i 10)))) (by kernel_rfl) ((HT.out.at 14 rfl)) (fun hHeld => ?_)
  refine tk1 0 (oi := ?o372) (v := ?v372) ?i372 ?w372 ?y372 ?r372
  case' i372 => simp only [g1, g2, g3]
  case i372 => rfl
  case w372 => kernel_rfl
  case y372 => (intro W hSw; go_simp) <;> with_reducible rfl
  try simp only [Act.put, p1, p2, p3]
  refine tk1 1 (oi := ?o373) (v := ?v373) ?i373 ?w373 ?y373 ?r373
  case' i373 => simp only [g1, g2, g3]
  case i373 => rfl
  case w373 => kernel_rfl
  case y373 => (intro W hSw; go_simp) <;> with_reducible rfl
  try simp only [Act.put, p1, p2, p3]
  refine tk1 2 (oi := ?o374) (v := ?v374) ?i374 ?w374 ?y374 ?r374
  case' i374 => simp only [g1, g2, g3]
  case i374 => rfl
  case w374 => kernel_rfl
  case y374 => (intro W hSw; go_simp) <;> with_reducible rfl
  try simp only [Act.put, p1, p2, p3]
  refine tk1 3 (oi := ?o375) (v := ?v375) ?i375 ?w375 ?y375 ?r375
  case' i375 => simp only [g1, g2, g3]
  case i375 => rfl
  case w375 => kernel_rfl
  case y375 => (intro W hSw; go_simp) <;> with_reducible rfl
  try simp only [Act.put, p1, p2, p3]
  refine tk1 4 (oi := ?o376) (v := ?v376) ?i376 ?w376 ?y376 ?r376
  case' i376 => simp only [g1, g2, g3]
  case i376 => rfl
  case w376 => kernel_rfl
  case y376 => (intro W hSw; go_simp) <;> with_reducible rfl
  try simp only [Act.put, p1, p2, p3]
  refine tk1 5 (oi := ?o377) (v := ?v377) ?i377 ?w377 ?y377 ?r377
  case' i377 => simp only [g1, g2, g3]
  case i377 => rfl
  case w377 => kernel_rfl
  case y377 => (intro W hSw; go_simp) <;> with_reducible rfl
  try simp only [Act.put, p1, p2, p3]
  refine tk1 6 (oi := ?o378) (v := ?v378) ?i378 ?w378 ?y378 ?r378
  case' i378 => simp only [g1, g2, g3]
  case i378 => rfl
  case w378 => kernel_rfl
  case y378 => (intro W hSw; go_simp) <;> with_reducible rfl
  try simp only [Act.put, p1, p2, p3]
  refine tk1 7 (oi := ?o379) (v := ?v379) ?i379 ?w379 ?y379 ?r379
  case' i379 => simp only [g1, g2, g3]
  case i379 => rfl
  case w379 => kernel_rfl
  case y379 => (intro W hSw; have q := hSw; go_simp) <;> with_reducible rfl
  try simp only [Act.put, p1, p2, p3]
  refine wpAnyH_ready (rs := [8]) (by kernel_rfl) (by simp) ?_
  refine (AllReadyH.cons (o := ?o380_0) ?i380_0 (fun K' hK => ?g380_0) AllReadyH.nil)
  case' i380_0 => simp only [g1, g2, g3]
  case i380_0 => rfl
  go_simp
  go_at_call 141
  refine (tk_opentext g2 HT.out HHX.out).mono ?_
  rintro e' W1 (⟨⟨z, t⟩, M1, hm, rfl, hT, hsz⟩ | ⟨c, M1, hm, hc, rfl, hT⟩)
  · obtain ⟨p, hu, hk, hs⟩ := text_inv hm
    have HU := Lib.hid (And.intro hu (And.intro hk hs))
    have HZ := Lib.hid hsz
    replace HT := Lib.hid hT
    clear hm hT hsz hu hk hs
    go_wp2_with fail
    refine hK.out _ _ ((HT.out.at 14 rfl)) (fun hHeld => ?_)
    clear hK K'
    try simp only [Act.put, p1, p2, p3]
    refine tk1 9 (oi := ?o381) (v := ?v381) ?i381 ?w381 ?y381 ?r381
    case' i381 => simp only [g1, g2, g3]
    case i381 => rfl
    case w381 => kernel_rfl
    case y381 => (intro W hSw; go_simp) <;> with_reducible rfl
    try simp only [Act.put, p1, p2, p3]
    refine wpAnyH_done (by kernel_rfl) ?_ _
    obtain ⟨N, Pl, E, hg⟩ : ∃ N Pl E, Ms.getA t.data.toList 0 = (N, Pl, E) := ⟨_, _, _, rfl⟩
    have HGA := Lib.hid hg
    have HBD := Lib.hid (Ms.getA_bounds t 0 hg)
    have HZM : Hid (t.size ≤ maxLen) := Lib.hid (Nat.le_trans HZ.out (by decide))
    clear hg
    go_wp2_with fail
    refine (Ms.get_at _ HZM.out HGA.out).mono ?_
    rintro e' W2 ⟨rfl, hw⟩
    subst hw
    by_cases hE : E = 0
    · subst hE
      have hne : (((0 : Nat) : Int) != 0) = false := by simp
      by_cases hl : Pl < t.size
      · have HG : Hid (opStamp P s most L = (.error 3, M1)) := Lib.hid (stamp_no HU.out.1 HU.out.2.1 (by rw [HU.out.2.2, HGA.out]; exact fun q => absurd q.2 (by simp only []; omega)))
        have hl2 : decide ((Pl : Int) < (t.size : Int)) = true := by simpa using hl
        have hl3 : (Pl : Int) < (t.size : Int) := by omega
        clear hl
        go_wp2_with fail
        exact ⟨rfl, .inr ⟨_, _, HG.out, by decide, rfl, HT.out.fall⟩⟩
      · have HG : Hid (opStamp P s most L = (.ok { s with y := z, stamp := (N : Int) }, M1)) := Lib.hid (stamp_ok HU.out.1 HU.out.2.1 (by rw [HU.out.2.2, HGA.out]) (by rw [HU.out.2.2]; have := HBD.out.2; omega))
        have hl2 : decide ((Pl : Int) < (t.size : Int)) = false := by simpa using hl
        have hl3 : ¬ ((Pl : Int) < (t.size : Int)) := by omega
        have dst := HT.out.at 23 rfl
        have dfz := HT.out.fz 28
        clear hl
        go_wp2_with fail
        go_end0
        exact .inl ⟨_, _, HG.out, rfl, HT.out.put g2 23 (.int .u64 (N : Int))⟩
    · have HG : Hid (opStamp P s most L = (.error 3, M1)) := Lib.hid (stamp_no HU.out.1 HU.out.2.1 (by rw [HU.out.2.2, HGA.out]; exact fun q => absurd q.1 hE))
      have hne : ((E : Int) != 0) = true := by simp; omega
      clear hE
      go_wp2_with fail
      exact ⟨rfl, .inr ⟨_, _, HG.out, by decide, rfl, HT.out.fall⟩⟩
  · have HG := Lib.hid (stamp_bad (P := P) (s := s) hm)
    unfold Fell
    go_wp2_with fail
    exact ⟨rfl, .inr ⟨_, _, HG.out, hc, rfl, hT⟩⟩
end
end Go.Proofs.YtgeonppckeiceaaGreatDoor
