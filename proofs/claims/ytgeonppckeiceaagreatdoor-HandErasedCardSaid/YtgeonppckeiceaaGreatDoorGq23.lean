/- The steps of Open that look for the peer, and at the stamp (by tools/stage17/steps.py). -/
/- The steps of Answer (by tools/stage17/steps.py). -/
import Derived.Test.YtgeonppckeiceaaGreatDoorGq01
import Derived.Test.YtgeonppckeiceaaGreatDoorGq22
namespace Go.Proofs.YtgeonppckeiceaaGreatDoor
open Go.RowKit
set_option linter.unusedVariables false
set_option linter.unusedSimpArgs false
set_option maxRecDepth 20000
theorem RowB.cell {bs : List (Nat × Obj)} {a : Option Addr} {ps : List Pr} (h : RowB bs a ps) {i : Nat} (hi : i < ps.length) {w : World} (hw : ∀ k o, (k, o) ∈ bs → w.heap[k]? = some o) :
  ∃ b off, a = some ⟨b, off, none⟩ ∧ ∀ w : World, (∀ k o, (k, o) ∈ bs → w.heap[k]? = some o) → w.cell? ⟨b, off + i * 4, none⟩ = some (.int .i64 (ps.getD i zeroPr).dh) ∧ w.cell? ⟨b, off + i * 4 + 1, none⟩ = some (.int .i64 (ps.getD i zeroPr).kem) ∧ w.cell? ⟨b, off + i * 4 + 2, none⟩ = some (.int .i64 (ps.getD i zeroPr).k0) ∧ w.cell? ⟨b, off + i * 4 + 2 + 1, none⟩ = some (.int .i64 (ps.getD i zeroPr).k1) := by
 obtain ⟨b, off, hr⟩ := h w hw
 obtain ⟨ha, _⟩ := hr i hi
 refine ⟨b, off, ha, fun u hu => ?_⟩
 obtain ⟨b2, off2, hr2⟩ := h u hu
 obtain ⟨ha2, h1, h2, h3, h4⟩ := hr2 i hi
 rw [ha] at ha2
 injection ha2 with e
 injection e with e1 e2 e3
 subst e1 e2
 exact ⟨h1, h2, h3, h4⟩
theorem text_inv {y z : Sy} {c : Int} {t : ByteArray} {L M : List Tm} {most : Int} (h : textG y c most L = (.ok (z, t), M)) : ∃ p, unsealG y c most L = (.ok (z, p), M) ∧ (getT M p).1.K = 1 ∧ (getT M p).1.S = t := by
 obtain ⟨⟨z1, p⟩, L1, h1, h2⟩ := G.to_inv h
 simp only [] at h2
 by_cases hk : (getT L1 p).1.K = 1
 ·rw [if_pos hk] at h2
  injection h2 with h3 h4
  injection h3 with h3
  injection h3 with h5 h6
  subst h4 h5
  exact ⟨p, h1, hk, h6⟩
 ·rw [if_neg hk] at h2
  injection h2 with h3 h4
  cases h3
theorem text_no {y : Sy} {c e : Int} {L M : List Tm} {most : Int} (h : textG y c most L = (.error e, M)) : unsealG y c most L = (.error e, M) ∨ ∃ z p, unsealG y c most L = (.ok (z, p), M) ∧ (getT M p).1.K ≠ 1 ∧ e = 3 := by
 unfold textG G.to at h
 cases hu : unsealG y c most L with
 | mk r L1 =>
  rw [hu] at h
  cases r with
  | error e2 =>
   simp only [] at h
   injection h with h3 h4
   injection h3 with h3
   subst h3 h4
   exact .inl rfl
  | ok q =>
   obtain ⟨z, p⟩ := q
   simp only [] at h
   by_cases hk : (getT L1 p).1.K = 1
   ·rw [if_pos hk] at h
    injection h with h3 h4
    cases h3
   ·rw [if_neg hk] at h
    injection h with h3 h4
    injection h3 with h3
    subst h4
    exact .inr ⟨z, p, rfl, hk, h3.symm⟩
theorem stamp_ok {P : OpP} {s : OpS} {z : Sy} {p : Int} {L M : List Tm} {most : Int} {N Pl : Nat} (h : unsealG s.y (P.m.i 10) most L = (.ok (z, p), M)) (hk : (getT M p).1.K = 1) (hg : Ms.getA (getT M p).1.S.data.toList 0 = (N, Pl, 0)) (hl : (Pl : Int) = (getT M p).1.S.size) :
  opStamp P s most L = (.ok { s with y := z, stamp := (N : Int) }, M) := by
 unfold opStamp
 rw [G.to_ok h]
 have e : stampF M p = some N := by unfold stampF; rw [hg]; exact if_pos ⟨hk, rfl, hl⟩
 unfold stampG
 rw [e]
theorem stamp_no {P : OpP} {s : OpS} {z : Sy} {p : Int} {L M : List Tm} {most : Int} (h : unsealG s.y (P.m.i 10) most L = (.ok (z, p), M)) (hk : (getT M p).1.K = 1) (hg : ¬ ((Ms.getA (getT M p).1.S.data.toList 0).2.2 = 0 ∧ ((Ms.getA (getT M p).1.S.data.toList 0).2.1 : Int) = (getT M p).1.S.size)) :
  opStamp P s most L = (.error 3, M) := by
 unfold opStamp
 rw [G.to_ok h]
 have e : stampF M p = none := by unfold stampF; exact if_neg (fun q => hg q.2)
 unfold stampG
 rw [e]
theorem stamp_bad {P : OpP} {s : OpS} {e : Int} {L M : List Tm} {most : Int} (h : textG s.y (P.m.i 10) most L = (.error e, M)) : opStamp P s most L = (.error e, M) := by
 rcases text_no h with h1 | ⟨z, p, h1, hk, he⟩
 ·exact G.to_bad h1
 ·subst he
  unfold opStamp
  rw [G.to_ok h1]
  have e : stampF M p = none := by unfold stampF; exact if_neg (fun q => hk q.1)
  unfold stampG
  rw [e]
section
variable {base g B : Nat} {most : Int} {Q2 : (Nat → Prop) → List Tm → World → Prop} {L L' L2 : List Tm} {bs : List (Nat × Obj)} {w0 w w' : World}
set_option maxHeartbeats 1000000 in
theorem op_findPeer (g2 : Good base Q2) {P : OpP} {s : OpS} (h : Tk base g most Q2 L L2 bs B 140 s.y (P.rest s) w0 w) (hn : P.n = P.ps.length) (hm : P.n ≤ 1000000) (hr : RowB bs P.a P.ps) :
  Calls Tryz.prog 77 #[.pointer (some ⟨B, 0, none⟩)] w (Gp (opFind P s most L) (fun _ => .tuple #[]) (fun L' x w' => Tk base g most Q2 L' L2 bs B 140 x.y (P.rest x) w0 w' ∧ ∃ i : Nat, x.peer = (i : Int) ∧ i < P.ps.length) (fun L' w' => Cs base (PSq base g most) Q2 L' L2 bs w0 w')) := by
 have HT := Lib.hid h
 have HHN := Lib.hid hn
 have HHM := Lib.hid hm
 have HHR := Lib.hid hr
 clear h hn hm hr
 have hmf : ∀ (fn : Fn) (first cap : Array Value) (w : World), (Instr.makeFunc fn first cap).run Tryz.prog w = .ok (.func fn first cap) w := fun _ _ _ _ => rfl
 rcases who_idx s.pub P.ps with ⟨i, hw, hi, hl⟩ | ⟨hw, hi⟩
 ·have HI := Lib.hid hi
  have HL := Lib.hid hl
  have HG : Hid (opFind P s most L = (.ok { s with peer := (i : Int) }, L)) := Lib.hid (by unfold opFind; rw [hw])
  clear hw hi hl
  obtain ⟨hbx, hbn⟩ := HT.out.box g2 #[.pointer (some ⟨B, 0, none⟩)] 212 (b := w.heap.size) rfl
  replace HT := Lib.hid hbx
  clear hbx hbn
  go_enter Tryz.func77, Tryz.ntmps77
  go_wp2_with fail
  replace HT := Lib.hid (HT.out.drew g2)
  refine wp_region_held_drew (S := (fun W => W.cell? ⟨w.heap.size, 0, none⟩ = some (.pointer (some ⟨B, 0, none⟩)) ∧ W.cell? ⟨B, 7, none⟩ = some (.slice P.a P.n P.cap))) (by kernel_rfl) (⟨(HT.out.boxc List.mem_cons_self 0 rfl).1, HT.out.at 2 rfl⟩) (fun hHeld => ?_)
  refine tk 0 (hy := fun W hSw => by ((obtain ⟨qc, q7⟩ := hSw; go_simp) <;> with_reducible rfl)) (h := ?_)
  refine tk 1 (hy := fun W hSw => by ((obtain ⟨qc, q7⟩ := hSw; go_simp) <;> with_reducible rfl)) (h := ?_)
  refine tk 2 (h := ?_)
  refine tk 3 (h := ?_)
  refine tk 4 (hy := fun W hSw => by ((obtain ⟨qc, q7⟩ := hSw; go_simp) <;> with_reducible rfl)) (h := ?_)
  refine tk 5 (h := ?_)
  refine rd 6 (h := fun K' hK => ?_)
  go_simp
  go_at_call 139
  refine (index_p (pub := s.pub) (B := B) P.a P.n P.cap P.ps _ HHN.out HHM.out (HHR.out _ (fun k o q => HT.out.cs.kept k o (List.mem_cons_of_mem _ (List.mem_cons_of_mem _ q)))) ⟨(HT.out.boxc List.mem_cons_self 0 rfl).1, HT.out.at 26 rfl⟩).mono ?_
  rintro e' W1 ⟨rfl, hb⟩
  replace HT := Lib.hid (HT.out.below g2 hb)
  clear hb
  rw [HI.out]
  go_wp2_with fail
  refine hK.out _ _ (⟨(HT.out.boxc List.mem_cons_self 0 rfl).1, HT.out.at 2 rfl⟩) (fun hHeld => ?_)
  clear hK K'
  try simp only [Act.put, p1, p2, p3]
  refine tk 7 (h := ?_)
  refine tk 8 (h := ?_)
  refine tk 9 (h := ?_)
  refine rd 10 (h := fun K' hK => ?_)
  have dst := HT.out.at 21 rfl
  have dfz := HT.out.fz 26
  go_simp
  replace HT := Lib.hid (HT.out.put g2 21 (.int .i64 (i : Int)))
  clear dst dfz
  refine hK.out _ _ (⟨(HT.out.boxc List.mem_cons_self 0 rfl).1, HT.out.at 2 rfl⟩) (fun hHeld => ?_)
  clear hK K'
  try simp only [Act.put, p1, p2, p3]
  refine wpAnyH_done (by kernel_rfl) ?_ _
  have c0 := (HT.out.boxc List.mem_cons_self 0 rfl).1
  have c26 := HT.out.at (v := .int .i64 (i : Int)) 21 rfl
  generalize World.setCell _ _ _ = W2 at HT c0 c26 ⊢
  have hlt : decide ((i : Int) < 0) = false := by simp
  go_wp2_with fail
  go_end0
  exact .inl ⟨_, _, HG.out, rfl, HT.out.unbox0, i, rfl, HL.out⟩
 ·have HI := Lib.hid hi
  have HG : Hid (opFind P s most L = (.error 5, L)) := Lib.hid (by unfold opFind; rw [hw])
  clear hw hi
  obtain ⟨hbx, hbn⟩ := HT.out.box g2 #[.pointer (some ⟨B, 0, none⟩)] 212 (b := w.heap.size) rfl
  replace HT := Lib.hid hbx
  clear hbx hbn
  go_enter Tryz.func77, Tryz.ntmps77
  go_wp2_with fail
  replace HT := Lib.hid (HT.out.drew g2)
  refine wp_region_held_drew (S := (fun W => W.cell? ⟨w.heap.size, 0, none⟩ = some (.pointer (some ⟨B, 0, none⟩)) ∧ W.cell? ⟨B, 7, none⟩ = some (.slice P.a P.n P.cap))) (by kernel_rfl) (⟨(HT.out.boxc List.mem_cons_self 0 rfl).1, HT.out.at 2 rfl⟩) (fun hHeld => ?_)
  refine tk 0 (hy := fun W hSw => by ((obtain ⟨qc, q7⟩ := hSw; go_simp) <;> with_reducible rfl)) (h := ?_)
  refine tk 1 (hy := fun W hSw => by ((obtain ⟨qc, q7⟩ := hSw; go_simp) <;> with_reducible rfl)) (h := ?_)
  refine tk 2 (h := ?_)
  refine tk 3 (h := ?_)
  refine tk 4 (hy := fun W hSw => by ((obtain ⟨qc, q7⟩ := hSw; go_simp) <;> with_reducible rfl)) (h := ?_)
  refine tk 5 (h := ?_)
  refine rd 6 (h := fun K' hK => ?_)
  go_simp
  go_at_call 139
  refine (index_p (pub := s.pub) (B := B) P.a P.n P.cap P.ps _ HHN.out HHM.out (HHR.out _ (fun k o q => HT.out.cs.kept k o (List.mem_cons_of_mem _ (List.mem_cons_of_mem _ q)))) ⟨(HT.out.boxc List.mem_cons_self 0 rfl).1, HT.out.at 26 rfl⟩).mono ?_
  rintro e' W1 ⟨rfl, hb⟩
  replace HT := Lib.hid (HT.out.below g2 hb)
  clear hb
  rw [HI.out]
  go_wp2_with fail
  refine hK.out _ _ (⟨(HT.out.boxc List.mem_cons_self 0 rfl).1, HT.out.at 2 rfl⟩) (fun hHeld => ?_)
  clear hK K'
  try simp only [Act.put, p1, p2, p3]
  refine tk 7 (h := ?_)
  refine tk 8 (h := ?_)
  refine tk 9 (h := ?_)
  refine rd 10 (h := fun K' hK => ?_)
  have dst := HT.out.at 21 rfl
  have dfz := HT.out.fz 26
  go_simp
  replace HT := Lib.hid (HT.out.put g2 21 (.int .i64 (-1)))
  clear dst dfz
  refine hK.out _ _ (⟨(HT.out.boxc List.mem_cons_self 0 rfl).1, HT.out.at 2 rfl⟩) (fun hHeld => ?_)
  clear hK K'
  try simp only [Act.put, p1, p2, p3]
  refine wpAnyH_done (by kernel_rfl) ?_ _
  have c0 := (HT.out.boxc List.mem_cons_self 0 rfl).1
  have c26 := HT.out.at (v := .int .i64 (-1)) 21 rfl
  generalize World.setCell _ _ _ = W2 at HT c0 c26 ⊢
  go_wp2_with fail
  exact ⟨rfl, .inr ⟨_, _, HG.out, by decide, rfl, HT.out.unbox0.fall⟩⟩
set_option maxHeartbeats 1000000 in
theorem op_mixPsk (g2 : Good base Q2) {P : OpP} {s : OpS} (h : Tk base g most Q2 L L2 bs B 140 s.y (P.rest s) w0 w) (hs : P.m.i 4 = 0 ∨ P.m.i 4 = 1) (hn : P.n = P.ps.length) (hm : P.n ≤ 1000000) (hr : RowB bs P.a P.ps) (hw : ∀ p, p ∈ P.ps → p.Wf) (hi : ∃ i : Nat, s.peer = (i : Int) ∧ i < P.ps.length) :
  Calls Tryz.prog 79 #[.pointer (some ⟨B, 0, none⟩)] w (Gp (opPsk P s most L) (fun _ => .tuple #[]) (fun L' x w' => Tk base g most Q2 L' L2 bs B 140 x.y (P.rest x) w0 w') (fun L' w' => Cs base (PSq base g most) Q2 L' L2 bs w0 w')) := by
 have HT := Lib.hid h
 have HHS := Lib.hid hs
 have HHN := Lib.hid hn
 have HHM := Lib.hid hm
 have HHR := Lib.hid hr
 have HHW := Lib.hid hw
 have HHI := Lib.hid hi
 clear h hs hn hm hr hw hi
 obtain ⟨i, hi, hl⟩ := HHI.out
 obtain ⟨b, off, ha, hcell⟩ := HHR.out.cell hl (fun k o q => HT.out.cs.kept k o (List.mem_cons_of_mem _ q))
 have HA := Lib.hid ha
 have HCELL := Lib.hid hcell
 have HPI := Lib.hid hi
 have HWF : Hid ((P.ps.getD i zeroPr).Wf) := Lib.hid (by rw [show P.ps.getD i zeroPr = P.ps[i] by simp [List.getD, hl]]; exact HHW.out _ (List.getElem_mem hl))
 have hn1 : i < P.n := by rw [HHN.out]; exact hl
 have hn2 : (i : Int) < (P.n : Int) := by omega
 have hn3 : (P.n : Int) ≤ 1000000 := by have := HHM.out; omega
 have hi2 : decide (0 ≤ (i : Int)) = true := by simp
 clear ha hcell hi hl
 rcases HHS.out with q | q
 ·have HSL : Hid (P.m.i 4 = 0) := Lib.hid q
  have HK : Hid (I64 (P.ps.getD i zeroPr).k0) := Lib.hid (HWF.out.2.2.1)
  have HGE : Hid (opPsk P s most L = ((turnG s.y (P.ps.getD i zeroPr).k0).to fun y => .of { s with y := y }) most L) := Lib.hid (by unfold opPsk; rw [q, HPI.out, Int.toNat_natCast]; rfl)
  clear q
  go_enter Tryz.func79, Tryz.ntmps79
  replace HT := Lib.hid (HT.out.drew g2)
  refine wp_region_held_drew (S := (fun W => W.cell? ⟨B, 7, none⟩ = some (.slice (some ⟨b, off, none⟩) P.n P.cap) ∧ W.cell? ⟨B, 26, none⟩ = some (.int .i64 (i : Int)) ∧ W.cell? ⟨B, 13, none⟩ = some (.int .i64 0) ∧ W.cell? ⟨b, off + i * 4 + 2, none⟩ = some (.int .i64 (P.ps.getD i zeroPr).k0))) (by kernel_rfl) (⟨(HT.out.at 2 rfl).trans (by rw [HA.out]), (HT.out.at 21 rfl).trans (by rw [HPI.out]), (HT.out.at 8 rfl).trans (by rw [HSL.out]), (HCELL.out _ (fun k o q => HT.out.cs.kept k o (List.mem_cons_of_mem _ q))).2.2.1⟩) (fun hHeld => ?_)
  refine tk 0 (h := ?_)
  refine tk 1 (h := ?_)
  refine tk 2 (h := ?_)
  refine tk 3 (h := ?_)
  refine tk 4 (h := ?_)
  refine tk 5 (h := ?_)
  refine tk 6 (hy := fun W hSw => by ((obtain ⟨q7, q26, q13, qr⟩ := hSw; go_simp) <;> with_reducible rfl)) (h := ?_)
  refine tk 7 (h := ?_)
  refine tk 8 (h := ?_)
  refine tk 9 (h := ?_)
  refine tk 10 (h := ?_)
  refine tk 11 (hy := fun W hSw => by ((obtain ⟨q7, q26, q13, qr⟩ := hSw; go_simp) <;> with_reducible rfl)) (h := ?_)
  refine tk 12 (h := ?_)
  refine tk 13 (h := ?_)
  refine tk 14 (h := ?_)
  refine tk 15 (h := ?_)
  refine tk 16 (hy := fun W hSw => by ((obtain ⟨q7, q26, q13, qr⟩ := hSw; go_simp) <;> with_reducible rfl)) (h := ?_)
  refine tk 17 (h := ?_)
  refine tk 18 (h := ?_)
  refine tk 19 (h := ?_)
  refine tk 20 (hy := fun W hSw => by ((obtain ⟨q7, q26, q13, qr⟩ := hSw; go_simp) <;> with_reducible rfl)) (h := ?_)
  refine rd 21 (h := fun K' hK => ?_)
  go_simp
  go_at_call 122
  refine (tk_mix g2 HT.out HK.out).mono ?_
  rintro e' W1 (⟨z, ME1, hm, rfl, hT⟩ | ⟨c, ME1, hm, hc, rfl, hT⟩)
  ·have E1 := Lib.hid hm
   have HTold := HT
   replace HT := Lib.hid hT
   clear hm hT
   go_wp2_with fail
   refine hK.out _ _ (⟨(HT.out.at 2 rfl).trans (by rw [HA.out]), (HT.out.at 21 rfl).trans (by rw [HPI.out]), (HT.out.at 8 rfl).trans (by rw [HSL.out]), (HCELL.out _ (fun k o q => HT.out.cs.kept k o (List.mem_cons_of_mem _ q))).2.2.1⟩) (fun hHeld => ?_)
   clear hK K'
   try simp only [Act.put, p1, p2, p3]
   refine wpAnyH_done (by kernel_rfl) ?_ _
   go_wp2_with fail
   go_end0
   exact .inl ⟨{ s with y := z }, _, (HGE.out).trans ((G.to_ok E1.out).trans (rfl)), rfl, HT.out⟩
  ·unfold Fell
   go_wp2_with fail
   exact ⟨rfl, .inr ⟨_, _, (HGE.out).trans (G.to_bad hm), hc, rfl, hT⟩⟩
 ·have HSL : Hid (P.m.i 4 = 1) := Lib.hid q
  have HK : Hid (I64 (P.ps.getD i zeroPr).k1) := Lib.hid (HWF.out.2.2.2)
  have HGE : Hid (opPsk P s most L = ((turnG s.y (P.ps.getD i zeroPr).k1).to fun y => .of { s with y := y }) most L) := Lib.hid (by unfold opPsk; rw [q, HPI.out, Int.toNat_natCast]; rfl)
  clear q
  go_enter Tryz.func79, Tryz.ntmps79
  replace HT := Lib.hid (HT.out.drew g2)
  refine wp_region_held_drew (S := (fun W => W.cell? ⟨B, 7, none⟩ = some (.slice (some ⟨b, off, none⟩) P.n P.cap) ∧ W.cell? ⟨B, 26, none⟩ = some (.int .i64 (i : Int)) ∧ W.cell? ⟨B, 13, none⟩ = some (.int .i64 1) ∧ W.cell? ⟨b, off + i * 4 + 2 + 1, none⟩ = some (.int .i64 (P.ps.getD i zeroPr).k1))) (by kernel_rfl) (⟨(HT.out.at 2 rfl).trans (by rw [HA.out]), (HT.out.at 21 rfl).trans (by rw [HPI.out]), (HT.out.at 8 rfl).trans (by rw [HSL.out]), (HCELL.out _ (fun k o q => HT.out.cs.kept k o (List.mem_cons_of_mem _ q))).2.2.2⟩) (fun hHeld => ?_)
  refine tk 0 (h := ?_)
  refine tk 1 (h := ?_)
  refine tk 2 (h := ?_)
  refine tk 3 (h := ?_)
  refine tk 4 (h := ?_)
  refine tk 5 (h := ?_)
  refine tk 6 (hy := fun W hSw => by ((obtain ⟨q7, q26, q13, qr⟩ := hSw; go_simp) <;> with_reducible rfl)) (h := ?_)
  refine tk 7 (h := ?_)
  refine tk 8 (h := ?_)
  refine tk 9 (h := ?_)
  refine tk 10 (h := ?_)
  refine tk 11 (hy := fun W hSw => by ((obtain ⟨q7, q26, q13, qr⟩ := hSw; go_simp) <;> with_reducible rfl)) (h := ?_)
  refine tk 12 (h := ?_)
  refine tk 13 (h := ?_)
  refine tk 14 (h := ?_)
  refine tk 15 (h := ?_)
  refine tk 16 (hy := fun W hSw => by ((obtain ⟨q7, q26, q13, qr⟩ := hSw; go_simp) <;> with_reducible rfl)) (h := ?_)
  refine tk 17 (h := ?_)
  refine tk 18 (h := ?_)
  refine tk 19 (h := ?_)
  refine tk 20 (hy := fun W hSw => by ((obtain ⟨q7, q26, q13, qr⟩ := hSw; go_simp) <;> with_reducible rfl)) (h := ?_)
  refine rd 21 (h := fun K' hK => ?_)
  go_simp
  go_at_call 122
  refine (tk_mix g2 HT.out HK.out).mono ?_
  rintro e' W1 (⟨z, ME1, hm, rfl, hT⟩ | ⟨c, ME1, hm, hc, rfl, hT⟩)
  ·have E1 := Lib.hid hm
   have HTold := HT
   replace HT := Lib.hid hT
   clear hm hT
   go_wp2_with fail
   refine hK.out _ _ (⟨(HT.out.at 2 rfl).trans (by rw [HA.out]), (HT.out.at 21 rfl).trans (by rw [HPI.out]), (HT.out.at 8 rfl).trans (by rw [HSL.out]), (HCELL.out _ (fun k o q => HT.out.cs.kept k o (List.mem_cons_of_mem _ q))).2.2.2⟩) (fun hHeld => ?_)
   clear hK K'
   try simp only [Act.put, p1, p2, p3]
   refine wpAnyH_done (by kernel_rfl) ?_ _
   go_wp2_with fail
   go_end0
   exact .inl ⟨{ s with y := z }, _, (HGE.out).trans ((G.to_ok E1.out).trans (rfl)), rfl, HT.out⟩
  ·unfold Fell
   go_wp2_with fail
   exact ⟨rfl, .inr ⟨_, _, (HGE.out).trans (G.to_bad hm), hc, rfl, hT⟩⟩
set_option maxHeartbeats 1000000 in
theorem op_openStamp (g2 : Good base Q2) {P : OpP} {s : OpS} (h : Tk base g most Q2 L L2 bs B 140 s.y (P.rest s) w0 w) (hx : I64 (P.m.i 10)) :
  Calls Tryz.prog 80 #[.pointer (some ⟨B, 0, none⟩)] w (Gp (opStamp P s most L) (fun _ => .tuple #[]) (fun L' x w' => Tk base g most Q2 L' L2 bs B 140 x.y (P.rest x) w0 w') (fun L' w' => Cs base (PSq base g most) Q2 L' L2 bs w0 w')) := by
 have HT := Lib.hid h
 have HHX := Lib.hid hx
 clear h hx
 go_enter Tryz.func80, Tryz.ntmps80
 go_wp2_with fail
 replace HT := Lib.hid (HT.out.drew g2)
 refine wp_region_held_drew (S := (fun W => W.cell? ⟨B, 19, none⟩ = some (.int .i64 (P.m.i 10)))) (by kernel_rfl) ((HT.out.at 14 rfl)) (fun hHeld => ?_)
 refine tk 0 (h := ?_)
 refine tk 1 (h := ?_)
 refine tk 2 (h := ?_)
 refine tk 3 (h := ?_)
 refine tk 4 (h := ?_)
 refine tk 5 (h := ?_)
 refine tk 6 (h := ?_)
 refine tk 7 (hy := fun W hSw => by ((have q := hSw; go_simp) <;> with_reducible rfl)) (h := ?_)
 refine rd 8 (h := fun K' hK => ?_)
 go_simp
 go_at_call 141
 refine (tk_opentext g2 HT.out HHX.out).mono ?_
 rintro e' W1 (⟨⟨z, t⟩, M1, hm, rfl, hT, hsz⟩ | ⟨c, M1, hm, hc, rfl, hT⟩)
 ·obtain ⟨p, hu, hk, hs⟩ := text_inv hm
  have HU := Lib.hid (And.intro hu (And.intro hk hs))
  have HZ := Lib.hid hsz
  replace HT := Lib.hid hT
  clear hm hT hsz hu hk hs
  go_wp2_with fail
  refine hK.out _ _ ((HT.out.at 14 rfl)) (fun hHeld => ?_)
  clear hK K'
  try simp only [Act.put, p1, p2, p3]
  refine tk 9 (h := ?_)
  refine wpAnyH_done (by kernel_rfl) ?_ _
  obtain ⟨N, Pl, E, hg⟩ : ∃ N Pl E, Ms.getA t.data.toList 0 = (N, Pl, E) := ⟨_, _, _, rfl⟩
  have HGA := Lib.hid hg
  have HBD := Lib.hid (Ms.getA_bounds t 0 hg)
  have HZM : Hid (t.size ≤ maxLen) := Lib.hid (Nat.le_trans HZ.out (by decide))
  clear hg
  go_wp2_with fail
  refine (Ms.get_at _ HZM.out HGA.out).mono ?_
  rintro e' W2 ⟨rfl, hw⟩
  subst hw
  by_cases hE : E = 0
  ·subst hE
   have hne : (((0 : Nat) : Int) != 0) = false := by simp
   by_cases hl : Pl < t.size
   ·have HG : Hid (opStamp P s most L = (.error 3, M1)) := Lib.hid (stamp_no HU.out.1 HU.out.2.1 (by rw [HU.out.2.2, HGA.out]; exact fun q => absurd q.2 (by simp only []; omega)))
    have hl2 : decide ((Pl : Int) < (t.size : Int)) = true := by simpa using hl
    have hl3 : (Pl : Int) < (t.size : Int) := by omega
    clear hl
    go_wp2_with fail
    exact ⟨rfl, .inr ⟨_, _, HG.out, by decide, rfl, HT.out.fall⟩⟩
   ·have HG : Hid (opStamp P s most L = (.ok { s with y := z, stamp := (N : Int) }, M1)) := Lib.hid (stamp_ok HU.out.1 HU.out.2.1 (by rw [HU.out.2.2, HGA.out]) (by rw [HU.out.2.2]; have := HBD.out.2; omega))
    have hl2 : decide ((Pl : Int) < (t.size : Int)) = false := by simpa using hl
    have hl3 : ¬ ((Pl : Int) < (t.size : Int)) := by omega
    have dst := HT.out.at 23 rfl
    have dfz := HT.out.fz 28
    clear hl
    go_wp2_with fail
    go_end0
    exact .inl ⟨_, _, HG.out, rfl, HT.out.put g2 23 (.int .u64 (N : Int))⟩
  ·have HG : Hid (opStamp P s most L = (.error 3, M1)) := Lib.hid (stamp_no HU.out.1 HU.out.2.1 (by rw [HU.out.2.2, HGA.out]; exact fun q => absurd q.1 hE))
   have hne : ((E : Int) != 0) = true := by simp; omega
   clear hE
   go_wp2_with fail
   exact ⟨rfl, .inr ⟨_, _, HG.out, by decide, rfl, HT.out.fall⟩⟩
 ·have HG := Lib.hid (stamp_bad (P := P) (s := s) hm)
  unfold Fell
  go_wp2_with fail
  exact ⟨rfl, .inr ⟨_, _, HG.out, hc, rfl, hT⟩⟩
end
theorem Tk.cl {base g B : Nat} {most : Int} {Q2 : (Nat → Prop) → List Tm → World → Prop} {L L2 : List Tm} {bs : List (Nat × Obj)} {T : TypeId} {y : Sy} {rest : List Value} {w0 w : World} (h : Tk base g most Q2 L L2 bs B T y rest w0 w) (o : Nat) (ho : 5 ≤ o) {v : Value} (hv : rest[o - 5]? = some v) : w.cell? ⟨B, o, none⟩ = some v := by
 have := h.at (o - 5) hv
 rwa [show o - 5 + 5 = o by omega] at this
section
variable {base g B : Nat} {most : Int} {Q2 : (Nat → Prop) → List Tm → World → Prop} {L L' L2 : List Tm} {bs : List (Nat × Obj)} {w0 w w' : World}
set_option maxHeartbeats 1000000 in
theorem an_sayE (g2 : Good base Q2) {P : AnP} {s : AnS} (h : Tk base g most Q2 L L2 bs B 147 s.y (P.rest s) w0 w) (ho : AnOk s) (hd : I64 P.d0) :
  Calls Tryz.prog 87 #[.pointer (some ⟨B, 0, none⟩)] w (Gp (anE P s most L) (fun _ => .tuple #[]) (fun L' x w' => Tk base g most Q2 L' L2 bs B 147 x.y (P.rest x) w0 w' ∧ AnOk x) (fun L' w' => Cs base (PSq base g most) Q2 L' L2 bs w0 w')) := by
 have HT := Lib.hid h
 have HO := Lib.hid ho
 have HHD := Lib.hid hd
 clear h ho hd
 go_enter Tryz.func87, Tryz.ntmps87
 replace HT := Lib.hid (HT.out.drew g2)
 refine wp_region_held_drew (S := (fun W => W.cell? ⟨B, 0, none⟩ = some (.pointer (some ⟨g, 0, none⟩)) ∧ W.cell? ⟨B, 28, none⟩ = some (.int .i64 P.d0))) (by kernel_rfl) (⟨HT.out.c0, (HT.out.at 23 rfl)⟩) (fun hHeld => ?_)
 refine tk 0 (h := ?_)
 refine tk 1 (h := ?_)
 refine tk 2 (h := ?_)
 refine tk 3 (h := ?_)
 refine tk 4 (h := ?_)
 refine tk 5 (h := ?_)
 refine tk 6 (h := ?_)
 refine tk 7 (h := ?_)
 refine tk 8 (hy := fun W hSw => by ((obtain ⟨q0, q28⟩ := hSw; go_simp) <;> with_reducible rfl)) (h := ?_)
 refine tk 9 (h := ?_)
 refine tk 10 (h := ?_)
 refine tk 11 (h := ?_)
 refine tk 12 (h := ?_)
 refine tk 13 (hy := fun W hSw => by ((obtain ⟨q0, q28⟩ := hSw; go_simp) <;> with_reducible rfl)) (h := ?_)
 refine rd 14 (h := fun K' hK => ?_)
 obtain ⟨a, e, MHF, hf⟩ : ∃ a e MHF, putF L most (pubT P.d0) = (a, e, MHF) := ⟨_, _, _, rfl⟩
 have HF := Lib.hid hf
 have HFs := Lib.hid (put_sd HT.out.cs.sound hf)
 have HFi := Lib.hid (name_i64 HT.out.facts.2.1 HT.out.facts.2.2 hf)
 clear hf
 go_simp
 go_at_call 46
 refine (HT.out.cs.pair.publicP g2 HHD.out HF.out).mono ?_
 rintro e' W1 ⟨rfl, hp, hk⟩
 replace HT := Lib.hid (HT.out.step hp hk HFs.out)
 clear hp hk
 go_wp2_with fail
 refine hK.out _ _ (⟨HT.out.c0, (HT.out.at 23 rfl)⟩) (fun hHeld => ?_)
 clear hK K'
 try simp only [Act.put, p1, p2, p3]
 refine tk 15 (h := ?_)
 refine tk 16 (h := ?_)
 refine rd 17 (h := fun K' hK => ?_)
 go_simp
 go_at_call 118
 by_cases he : e = 0
 ·subst he
  refine (got_yes _ _).mono ?_
  rintro e' W2 ⟨rfl, rfl⟩
  go_wp2_with fail
  refine hK.out _ _ (⟨HT.out.c0, (HT.out.at 23 rfl)⟩) (fun hHeld => ?_)
  clear hK K'
  try simp only [Act.put, p1, p2, p3]
  refine rd 18 (h := fun K' hK => ?_)
  go_simp
  go_at_call 117
  refine (tk_say g2 HT.out HFi.out).mono ?_
  rintro e' W1 (⟨z, ME1, hm, rfl, hT⟩ | ⟨c, ME1, hm, hc, rfl, hT⟩)
  ·have E1 := Lib.hid hm
   have HTold := HT
   replace HT := Lib.hid hT
   clear hm hT
   go_wp2_with fail
   refine hK.out _ _ (⟨HT.out.c0, (HT.out.at 23 rfl)⟩) (fun hHeld => ?_)
   clear hK K'
   try simp only [Act.put, p1, p2, p3]
   refine tk 19 (h := ?_)
   refine tk 20 (h := ?_)
   refine tk 21 (h := ?_)
   refine rd 22 (h := fun K' hK => ?_)
   have dst := HT.out.at 16 rfl
   have dfz := HT.out.fz 21
   go_simp
   replace HT := Lib.hid (HT.out.put g2 16 (.int .i64 a))
   clear dst dfz
   refine hK.out _ _ (⟨HT.out.c0, (HT.out.at 23 rfl)⟩) (fun hHeld => ?_)
   clear hK K'
   try simp only [Act.put, p1, p2, p3]
   refine wpAnyH_done (by kernel_rfl) ?_ _
   go_wp2_with fail
   go_end0
   exact .inl ⟨{ s with e := a, y := z }, _, by unfold anE; exact (G.to_ok (putG_ok HF.out)).trans ((G.to_ok E1.out).trans (rfl)), rfl, HT.out, ⟨HFi.out, HO.out.2⟩⟩
  ·unfold Fell
   go_wp2_with fail
   exact ⟨rfl, .inr ⟨_, _, by unfold anE; exact (G.to_ok (putG_ok HF.out)).trans (G.to_bad hm), hc, rfl, hT⟩⟩
 ·have HE := Lib.hid he
  clear he
  refine (got_no _ _ HE.out _).mono ?_
  rintro e' W2 ⟨rfl, rfl⟩
  unfold Fell
  go_wp2_with fail
  exact ⟨rfl, .inr ⟨_, _, by unfold anE; exact G.to_bad (putG_no HF.out HE.out), HE.out, rfl, HT.out.fall⟩⟩
set_option maxHeartbeats 1000000 in
theorem an_mixE (g2 : Good base Q2) {P : AnP} {s : AnS} (h : Tk base g most Q2 L L2 bs B 147 s.y (P.rest s) w0 w) (ho : AnOk s) (hd : I64 P.d0) :
  Calls Tryz.prog 88 #[.pointer (some ⟨B, 0, none⟩)] w (Gp (anMixE P s most L) (fun _ => .tuple #[]) (fun L' x w' => Tk base g most Q2 L' L2 bs B 147 x.y (P.rest x) w0 w' ∧ AnOk x) (fun L' w' => Cs base (PSq base g most) Q2 L' L2 bs w0 w')) := by
 have HT := Lib.hid h
 have HO := Lib.hid ho
 have HHD := Lib.hid hd
 clear h ho hd
 go_enter Tryz.func88, Tryz.ntmps88
 replace HT := Lib.hid (HT.out.drew g2)
 refine wp_region_held_drew (S := (fun W => W.cell? ⟨B, 28, none⟩ = some (.int .i64 P.d0) ∧ W.cell? ⟨B, 12, none⟩ = some (.int .i64 P.o.e))) (by kernel_rfl) (⟨(HT.out.at 23 rfl), (HT.out.at 7 rfl)⟩) (fun hHeld => ?_)
 refine tk 0 (h := ?_)
 refine tk 1 (h := ?_)
 refine tk 2 (h := ?_)
 refine tk 3 (h := ?_)
 refine tk 4 (h := ?_)
 refine tk 5 (h := ?_)
 refine tk 6 (h := ?_)
 refine tk 7 (hy := fun W hSw => by ((obtain ⟨q28, q12⟩ := hSw; go_simp) <;> with_reducible rfl)) (h := ?_)
 refine tk 8 (h := ?_)
 refine tk 9 (h := ?_)
 refine tk 10 (h := ?_)
 refine tk 11 (h := ?_)
 refine tk 12 (hy := fun W hSw => by ((obtain ⟨q28, q12⟩ := hSw; go_simp) <;> with_reducible rfl)) (h := ?_)
 refine rd 13 (h := fun K' hK => ?_)
 go_simp
 go_at_call 119
 refine (tk_share g2 HT.out HHD.out).mono ?_
 rintro e' W1 (⟨z, ME1, hm, rfl, hT⟩ | ⟨c, ME1, hm, hc, rfl, hT⟩)
 ·have E1 := Lib.hid hm
  have HTold := HT
  replace HT := Lib.hid hT
  clear hm hT
  go_wp2_with fail
  refine hK.out _ _ (⟨(HT.out.at 23 rfl), (HT.out.at 7 rfl)⟩) (fun hHeld => ?_)
  clear hK K'
  try simp only [Act.put, p1, p2, p3]
  refine wpAnyH_done (by kernel_rfl) ?_ _
  go_wp2_with fail
  go_end0
  exact .inl ⟨{ s with y := z }, _, by unfold anMixE; exact (G.to_ok E1.out).trans (rfl), rfl, HT.out, HO.out⟩
 ·unfold Fell
  go_wp2_with fail
  exact ⟨rfl, .inr ⟨_, _, by unfold anMixE; exact G.to_bad hm, hc, rfl, hT⟩⟩
set_option maxHeartbeats 1000000 in
theorem an_mixPub (g2 : Good base Q2) {P : AnP} {s : AnS} (h : Tk base g most Q2 L L2 bs B 147 s.y (P.rest s) w0 w) (ho : AnOk s) (hd : I64 P.d0) :
  Calls Tryz.prog 89 #[.pointer (some ⟨B, 0, none⟩)] w (Gp (anMixPub P s most L) (fun _ => .tuple #[]) (fun L' x w' => Tk base g most Q2 L' L2 bs B 147 x.y (P.rest x) w0 w' ∧ AnOk x) (fun L' w' => Cs base (PSq base g most) Q2 L' L2 bs w0 w')) := by
 have HT := Lib.hid h
 have HO := Lib.hid ho
 have HHD := Lib.hid hd
 clear h ho hd
 go_enter Tryz.func89, Tryz.ntmps89
 replace HT := Lib.hid (HT.out.drew g2)
 refine wp_region_held_drew (S := (fun W => W.cell? ⟨B, 28, none⟩ = some (.int .i64 P.d0) ∧ W.cell? ⟨B, 14, none⟩ = some (.int .i64 P.o.pub))) (by kernel_rfl) (⟨(HT.out.at 23 rfl), (HT.out.at 9 rfl)⟩) (fun hHeld => ?_)
 refine tk 0 (h := ?_)
 refine tk 1 (h := ?_)
 refine tk 2 (h := ?_)
 refine tk 3 (h := ?_)
 refine tk 4 (h := ?_)
 refine tk 5 (h := ?_)
 refine tk 6 (h := ?_)
 refine tk 7 (hy := fun W hSw => by ((obtain ⟨q28, q14⟩ := hSw; go_simp) <;> with_reducible rfl)) (h := ?_)
 refine tk 8 (h := ?_)
 refine tk 9 (h := ?_)
 refine tk 10 (h := ?_)
 refine tk 11 (h := ?_)
 refine tk 12 (hy := fun W hSw => by ((obtain ⟨q28, q14⟩ := hSw; go_simp) <;> with_reducible rfl)) (h := ?_)
 refine rd 13 (h := fun K' hK => ?_)
 go_simp
 go_at_call 119
 refine (tk_share g2 HT.out HHD.out).mono ?_
 rintro e' W1 (⟨z, ME1, hm, rfl, hT⟩ | ⟨c, ME1, hm, hc, rfl, hT⟩)
 ·have E1 := Lib.hid hm
  have HTold := HT
  replace HT := Lib.hid hT
  clear hm hT
  go_wp2_with fail
  refine hK.out _ _ (⟨(HT.out.at 23 rfl), (HT.out.at 9 rfl)⟩) (fun hHeld => ?_)
  clear hK K'
  try simp only [Act.put, p1, p2, p3]
  refine wpAnyH_done (by kernel_rfl) ?_ _
  go_wp2_with fail
  go_end0
  exact .inl ⟨{ s with y := z }, _, by unfold anMixPub; exact (G.to_ok E1.out).trans (rfl), rfl, HT.out, HO.out⟩
 ·unfold Fell
  go_wp2_with fail
  exact ⟨rfl, .inr ⟨_, _, by unfold anMixPub; exact G.to_bad hm, hc, rfl, hT⟩⟩
set_option maxHeartbeats 1000000 in
theorem an_wrapSecret (g2 : Good base Q2) {P : AnP} {s : AnS} (h : Tk base g most Q2 L L2 bs B 147 s.y (P.rest s) w0 w) (ho : AnOk s) (hd : I64 P.d1) :
  Calls Tryz.prog 90 #[.pointer (some ⟨B, 0, none⟩)] w (Gp (anWrap P s most L) (fun _ => .tuple #[]) (fun L' x w' => Tk base g most Q2 L' L2 bs B 147 x.y (P.rest x) w0 w' ∧ AnOk x) (fun L' w' => Cs base (PSq base g most) Q2 L' L2 bs w0 w')) := by
 have HT := Lib.hid h
 have HO := Lib.hid ho
 have HHD := Lib.hid hd
 clear h ho hd
 go_enter Tryz.func90, Tryz.ntmps90
 replace HT := Lib.hid (HT.out.drew g2)
 refine wp_region_held_drew (S := (fun W => W.cell? ⟨B, 13, none⟩ = some (.int .i64 P.o.ek) ∧ W.cell? ⟨B, 29, none⟩ = some (.int .i64 P.d1))) (by kernel_rfl) (⟨(HT.out.at 8 rfl), (HT.out.at 24 rfl)⟩) (fun hHeld => ?_)
 refine tk 0 (h := ?_)
 refine tk 1 (h := ?_)
 refine tk 2 (h := ?_)
 refine tk 3 (h := ?_)
 refine tk 4 (h := ?_)
 refine tk 5 (h := ?_)
 refine tk 6 (h := ?_)
 refine tk 7 (h := ?_)
 refine tk 8 (hy := fun W hSw => by ((obtain ⟨q13, q29⟩ := hSw; go_simp) <;> with_reducible rfl)) (h := ?_)
 refine tk 9 (h := ?_)
 refine tk 10 (h := ?_)
 refine tk 11 (h := ?_)
 refine tk 12 (h := ?_)
 refine tk 13 (hy := fun W hSw => by ((obtain ⟨q13, q29⟩ := hSw; go_simp) <;> with_reducible rfl)) (h := ?_)
 refine rd 14 (h := fun K' hK => ?_)
 go_simp
 go_at_call 120
 refine (tk_wrap g2 HT.out HHD.out).mono ?_
 rintro e' W1 (⟨⟨z, b⟩, ME1, hm, rfl, hT⟩ | ⟨c, ME1, hm, hc, rfl, hT⟩)
 ·have E1 := Lib.hid hm
  have HTold := HT
  replace HT := Lib.hid hT
  clear hm hT
  have HBI := Lib.hid (boxG_i64 HTold.out.facts.2.1 HTold.out.facts.2.2 HTold.out.facts.1 E1.out)
  go_wp2_with fail
  refine hK.out _ _ (⟨(HT.out.at 8 rfl), (HT.out.at 24 rfl)⟩) (fun hHeld => ?_)
  clear hK K'
  try simp only [Act.put, p1, p2, p3]
  refine tk 15 (h := ?_)
  refine tk 16 (h := ?_)
  refine tk 17 (h := ?_)
  refine rd 18 (h := fun K' hK => ?_)
  have dst := HT.out.at 18 rfl
  have dfz := HT.out.fz 23
  go_simp
  replace HT := Lib.hid (HT.out.put g2 18 (.int .i64 b))
  clear dst dfz
  refine hK.out _ _ (⟨(HT.out.at 8 rfl), (HT.out.at 24 rfl)⟩) (fun hHeld => ?_)
  clear hK K'
  try simp only [Act.put, p1, p2, p3]
  refine wpAnyH_done (by kernel_rfl) ?_ _
  go_wp2_with fail
  go_end0
  exact .inl ⟨{ s with box := b, y := z }, _, by unfold anWrap; exact (G.to_ok E1.out).trans (rfl), rfl, HT.out, ⟨HO.out.1, HBI.out, HO.out.2.2⟩⟩
 ·unfold Fell
  go_wp2_with fail
  exact ⟨rfl, .inr ⟨_, _, by unfold anWrap; exact G.to_bad hm, hc, rfl, hT⟩⟩
set_option maxHeartbeats 1000000 in
theorem an_check (g2 : Good base Q2) {P : AnP} {s : AnS} (h : Tk base g most Q2 L L2 bs B 147 s.y (P.rest s) w0 w) (ho : AnOk s) (hw : Ms.Ms.Wf (P.m s)) :
  Calls Tryz.prog 93 #[.pointer (some ⟨B, 0, none⟩)] w (Gp (anCheck P s most L) (fun _ => .tuple #[]) (fun L' x w' => Tk base g most Q2 L' L2 bs B 147 x.y (P.rest x) w0 w' ∧ AnOk x) (fun L' w' => Cs base (PSq base g most) Q2 L' L2 bs w0 w')) := by
 have HT := Lib.hid h
 have HO := Lib.hid ho
 have HHW := Lib.hid hw
 clear h ho hw
 by_cases hc : Ms.rightM (P.m s) = true
 ·have HG : Hid (anCheck P s most L = (.ok s, L)) := Lib.hid (by unfold anCheck; rw [if_pos hc])
  have m0 := HT.out.at 10 rfl
  have m1 := HT.out.at 11 rfl
  have m2 := HT.out.at 12 rfl
  have m3 := HT.out.at 13 rfl
  have m4 := HT.out.at 14 rfl
  have m5 := HT.out.at 15 rfl
  have m6 := HT.out.at 16 rfl
  have m7 := HT.out.at 17 rfl
  have m8 := HT.out.at 18 rfl
  have m9 := HT.out.at 19 rfl
  have m10 := HT.out.at 20 rfl
  have m11 := HT.out.at 21 rfl
  have m12 := HT.out.at 22 rfl
  have HC := Lib.hid hc
  clear hc
  go_enter Tryz.func93, Tryz.ntmps93
  go_wp2_with fail
  refine (mustBe_yes (P.m s) 2 _ HHW.out rfl HC.out).mono ?_
  rintro e' w1 ⟨rfl, hb⟩
  replace HT := Lib.hid (HT.out.below g2 hb)
  clear hb
  go_wp2_with fail
  go_end0
  exact .inl ⟨_, _, HG.out, rfl, HT.out, HO.out⟩
 ·have HG : Hid (anCheck P s most L = (.error 3, L)) := Lib.hid (by unfold anCheck; rw [if_neg hc])
  have m0 := HT.out.at 10 rfl
  have m1 := HT.out.at 11 rfl
  have m2 := HT.out.at 12 rfl
  have m3 := HT.out.at 13 rfl
  have m4 := HT.out.at 14 rfl
  have m5 := HT.out.at 15 rfl
  have m6 := HT.out.at 16 rfl
  have m7 := HT.out.at 17 rfl
  have m8 := HT.out.at 18 rfl
  have m9 := HT.out.at 19 rfl
  have m10 := HT.out.at 20 rfl
  have m11 := HT.out.at 21 rfl
  have m12 := HT.out.at 22 rfl
  have HC := Lib.hid hc
  clear hc
  go_enter Tryz.func93, Tryz.ntmps93
  go_wp2_with fail
  refine (mustBe_no (P.m s) 2 _ HHW.out (fun q => HC.out q.2)).mono ?_
  rintro e' w1 ⟨rfl, hb⟩
  replace HT := Lib.hid (HT.out.below g2 hb)
  clear hb
  unfold Fell
  go_wp2_with fail
  exact ⟨rfl, .inr ⟨_, _, HG.out, by decide, rfl, HT.out.fall⟩⟩
set_option maxHeartbeats 1000000 in
theorem an_sealVersion (g2 : Good base Q2) {P : AnP} {s : AnS} (h : Tk base g most Q2 L L2 bs B 147 s.y (P.rest s) w0 w) (ho : AnOk s)  :
  Calls Tryz.prog 91 #[.pointer (some ⟨B, 0, none⟩)] w (Gp (anSeal P s most L) (fun _ => .tuple #[]) (fun L' x w' => Tk base g most Q2 L' L2 bs B 147 x.y (P.rest x) w0 w' ∧ AnOk x) (fun L' w' => Cs base (PSq base g most) Q2 L' L2 bs w0 w')) := by
 have HT := Lib.hid h
 have HO := Lib.hid ho
 clear h ho
 have c10 := HT.out.at 5 rfl
 obtain ⟨zb, hzb⟩ : ∃ zb, P.o.version % 256 = zb := ⟨_, rfl⟩
 have hw : IntKind.u8.wrap P.o.version = zb := by
  rw [← hzb]
  simp [IntKind.wrap, IntKind.bits, IntKind.signed]
 have hz0 : 0 ≤ zb := by omega
 have hz1 : zb < 256 := by omega
 have hcv := Ms.conv_one w zb hz0 hz1
 have HV : Hid ((⟨[UInt8.ofNat zb.toNat].toArray⟩ : ByteArray) = verS P.o.version) := Lib.hid (by rw [← hzb]; rfl)
 have HAL := Lib.hid (below_alloc w (.cells #[.int .u8 zb] 5 : Obj))
 have HHZ : Hid ((verS P.o.version).size ≤ maxLen) := Lib.hid (show (1 : Nat) ≤ maxLen by decide)
 clear hzb
 go_enter Tryz.func91, Tryz.ntmps91
 go_wp2_with fail
 rw [HV.out]
 replace HT := Lib.hid ((HT.out.below g2 HAL.out).drew g2)
 clear c10 hcv hw hz0 hz1 HAL
 refine wp_region_held_drew (S := (fun _ => True)) (by kernel_rfl) (trivial) (fun hHeld => ?_)
 refine tk 0 (h := ?_)
 refine tk 1 (h := ?_)
 refine tk 2 (h := ?_)
 refine tk 3 (h := ?_)
 refine tk 4 (h := ?_)
 refine tk 5 (h := ?_)
 refine tk 6 (h := ?_)
 refine tk 7 (h := ?_)
 refine rd 8 (h := fun K' hK => ?_)
 go_simp
 go_at_call 123
 refine (tk_text g2 HT.out HHZ.out).mono ?_
 rintro e' W1 (⟨a, ME1, hm, rfl, hT⟩ | ⟨c, ME1, hm, hc, rfl, hT⟩)
 ·have E1 := Lib.hid hm
  have HTold := HT
  replace HT := Lib.hid hT
  clear hm hT
  have HPI := Lib.hid (putG_i64 HTold.out.facts.2.1 HTold.out.facts.2.2 E1.out)
  go_wp2_with fail
  refine hK.out _ _ (trivial) (fun hHeld => ?_)
  clear hK K'
  try simp only [Act.put, p1, p2, p3]
  refine rd 9 (h := fun K' hK => ?_)
  go_simp
  go_at_call 121
  refine (tk_seal g2 HT.out HPI.out).mono ?_
  rintro e' W1 (⟨⟨z, c⟩, ME2, hm, rfl, hT⟩ | ⟨c, ME2, hm, hc, rfl, hT⟩)
  ·have E2 := Lib.hid hm
   have HTold := HT
   replace HT := Lib.hid hT
   clear hm hT
   have HBI := Lib.hid (sealG_i64 HTold.out.facts.2.1 HTold.out.facts.2.2 HTold.out.facts.1 HTold.out.wf E2.out)
   go_wp2_with fail
   refine hK.out _ _ (trivial) (fun hHeld => ?_)
   clear hK K'
   try simp only [Act.put, p1, p2, p3]
   refine tk 10 (h := ?_)
   refine tk 11 (h := ?_)
   refine tk 12 (h := ?_)
   refine rd 13 (h := fun K' hK => ?_)
   have dst := HT.out.at 19 rfl
   have dfz := HT.out.fz 24
   go_simp
   replace HT := Lib.hid (HT.out.put g2 19 (.int .i64 c))
   clear dst dfz
   refine hK.out _ _ (trivial) (fun hHeld => ?_)
   clear hK K'
   try simp only [Act.put, p1, p2, p3]
   refine wpAnyH_done (by kernel_rfl) ?_ _
   go_wp2_with fail
   go_end0
   exact .inl ⟨{ s with c1 := c, y := z }, _, by unfold anSeal; exact (G.to_ok E1.out).trans ((G.to_ok E2.out).trans (rfl)), rfl, HT.out, ⟨HO.out.1, HO.out.2.1, HBI.out⟩⟩
  ·unfold Fell
   go_wp2_with fail
   exact ⟨rfl, .inr ⟨_, _, by unfold anSeal; exact (G.to_ok E1.out).trans (G.to_bad hm), hc, rfl, hT⟩⟩
 ·unfold Fell
  go_wp2_with fail
  exact ⟨rfl, .inr ⟨_, _, by unfold anSeal; exact G.to_bad hm, hc, rfl, hT⟩⟩
set_option maxHeartbeats 1000000 in
theorem an_end (g2 : Good base Q2) {P : AnP} {s : AnS} (h : Tk base g most Q2 L L2 bs B 147 s.y (P.rest s) w0 w) (ho : AnOk s)  :
  Calls Tryz.prog 92 #[.pointer (some ⟨B, 0, none⟩)] w (Gp (anEnd P s most L) (fun _ => .tuple #[]) (fun L' x w' => Tk base g most Q2 L' L2 bs B 147 x.y (P.rest x) w0 w' ∧ AnOk x) (fun L' w' => Cs base (PSq base g most) Q2 L' L2 bs w0 w')) := by
 have HT := Lib.hid h
 have HO := Lib.hid ho
 clear h ho
 go_enter Tryz.func92, Tryz.ntmps92
 go_wp2_with fail
 refine (tk_split g2 HT.out).mono ?_
 rintro e' W1 (⟨⟨k1, k2⟩, M1, hm, rfl, hT⟩ | ⟨c, M1, hm, hc, rfl, hT⟩)
 ·have E1 := Lib.hid hm
  replace HT := Lib.hid hT
  clear hm hT
  go_wp2_with fail
  have HT0 := HT
  replace HT := Lib.hid (HT.out.drew g2)
  refine wp_region_held_drew (S := (fun W => W.cell? ⟨B, 3, none⟩ = some (.int .i64 s.y.H) ∧ W.cell? ⟨B, 10, none⟩ = some (.int .i64 P.o.version))) (by kernel_rfl) (⟨HT.out.c3, (HT.out.at 5 rfl)⟩) (fun hHeld => ?_)
  refine tk 0 (h := ?_)
  refine tk 1 (h := ?_)
  refine tk 2 (h := ?_)
  refine tk 3 (h := ?_)
  refine tk 4 (h := ?_)
  refine tk 5 (h := ?_)
  refine tk 6 (hy := fun W hSw => by ((obtain ⟨q3, q10⟩ := hSw; go_simp) <;> with_reducible rfl)) (h := ?_)
  refine tk 7 (h := ?_)
  refine tk 8 (h := ?_)
  refine tk 9 (h := ?_)
  refine tk 10 (h := ?_)
  refine tk 11 (h := ?_)
  refine tk 12 (h := ?_)
  refine tk 13 (hy := fun W hSw => by ((obtain ⟨q3, q10⟩ := hSw; go_simp) <;> with_reducible rfl)) (h := ?_)
  refine tk 14 (h := ?_)
  refine tk 15 (h := ?_)
  refine tk 16 (h := ?_)
  refine rd 17 (h := fun K' hK => ?_)
  have ds0 := HT0.out.cl 30 (by decide) rfl
  have df0 := HT0.out.fz 30
  have ds1 := HT0.out.cl 31 (by decide) rfl
  have df1 := HT0.out.fz 31
  have ds2 := HT0.out.cl 32 (by decide) rfl
  have df2 := HT0.out.fz 32
  have ds3 := HT0.out.cl 33 (by decide) rfl
  have df3 := HT0.out.fz 33
  go_simp
  replace HT := Lib.hid (HT.out.put g2 25 (.int .i64 s.y.H))
  replace HT := Lib.hid (HT.out.put g2 26 (.int .i64 k2))
  replace HT := Lib.hid (HT.out.put g2 27 (.int .i64 k1))
  replace HT := Lib.hid (HT.out.put g2 28 (.int .i64 P.o.version))
  clear ds0 df0 ds1 df1 ds2 df2 ds3 df3
  refine hK.out _ _ (⟨HT.out.c3, (HT.out.at 5 rfl)⟩) (fun hHeld => ?_)
  clear hK K'
  try simp only [Act.put, p1, p2, p3]
  refine wpAnyH_done (by kernel_rfl) ?_ _
  go_wp2_with fail
  go_end0
  exact .inl ⟨{ s with h := s.y.H, send := k2, recv := k1, version := P.o.version }, _, by unfold anEnd; exact (G.to_ok E1.out).trans rfl, rfl, HT.out, HO.out⟩
 ·unfold Fell
  go_wp2_with fail
  exact ⟨rfl, .inr ⟨_, _, by unfold anEnd; exact G.to_bad hm, hc, rfl, hT⟩⟩
end
end Go.Proofs.YtgeonppckeiceaaGreatDoor
