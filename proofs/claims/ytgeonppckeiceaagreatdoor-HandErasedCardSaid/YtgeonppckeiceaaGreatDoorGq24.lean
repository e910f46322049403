/- The steps of Finish (by tools/stage17/steps.py). -/
/- Steps upon a store in turn, up to the first error: what they tell as a list of steps in G. -/
import Derived.Test.YtgeonppckeiceaaGreatDoorGq01
import Derived.Test.YtgeonppckeiceaaGreatDoorGq23
namespace Go.Proofs.YtgeonppckeiceaaGreatDoor
open Go.RowKit
set_option linter.unusedVariables false
set_option linter.unusedSimpArgs false
set_option maxRecDepth 20000
theorem one_byte {t : ByteArray} (h : t.size = 1) : ∃ c, t = ⟨#[c]⟩ := by
 obtain ⟨⟨l⟩⟩ := t
 match l, h with
 | [c], _ => exact ⟨c, rfl⟩
 | [], h => simp [ByteArray.size] at h
 | _ :: _ :: _, h => simp [ByteArray.size] at h
theorem index_mem (c : UInt8) : ∀ l : List UInt8, 0 ≤ Lib.indexByte l c ↔ c ∈ l
 | [] => by simp [Lib.indexByte]
 | b :: l => by
  have ih := index_mem c l
  unfold Lib.indexByte
  by_cases hb : b = c
  ·subst hb
   simp
  ·rw [if_neg (by simpa using hb)]
   by_cases hm : Lib.indexByte l c = -1
   ·rw [if_pos (by simpa using hm)]
    rw [hm] at ih
    simp only [List.mem_cons]
    constructor
    ·intro h; omega
    ·rintro (h | h)
     ·exact absurd h.symm hb
     ·have := ih.2 h; omega
   ·rw [if_neg (by simpa using hm)]
    have hge : -1 ≤ Lib.indexByte l c := index_ge c l
    simp only [List.mem_cons]
    constructor
    ·intro _; exact .inr (ih.1 (by omega))
    ·intro _; omega
where
 index_ge (c : UInt8) : ∀ l : List UInt8, -1 ≤ Lib.indexByte l c
 | [] => by simp [Lib.indexByte]
 | b :: l => by
  have := index_ge c l
  unfold Lib.indexByte
  split
  ·omega
  ·split <;> omega
theorem ver_ok {P : FiP} {s : FiS} {z : Sy} {p : Int} {L M : List Tm} {most : Int} {c : UInt8} (h : unsealG s.y (P.m.i 9) most L = (.ok (z, p), M)) (hk : (getT M p).1.K = 1) (hs : (getT M p).1.S = ⟨#[c]⟩) (hm : c ∈ P.p.offer.data.toList) :
  fiVersion P s most L = (.ok { s with y := z, version := (c.toNat : Int) }, M) := by
 unfold fiVersion
 rw [G.to_ok h]
 have e : byteF M p = some c := by unfold byteF; rw [if_pos hk, hs]
 unfold verG verF
 rw [e]
 simp only [if_pos hm]
theorem ver_none {P : FiP} {s : FiS} {z : Sy} {p : Int} {L M : List Tm} {most : Int} {c : UInt8} (h : unsealG s.y (P.m.i 9) most L = (.ok (z, p), M)) (hk : (getT M p).1.K = 1) (hs : (getT M p).1.S = ⟨#[c]⟩) (hm : ¬ c ∈ P.p.offer.data.toList) :
  fiVersion P s most L = (.error 11, M) := by
 unfold fiVersion
 rw [G.to_ok h]
 have e : byteF M p = some c := by unfold byteF; rw [if_pos hk, hs]
 unfold verG verF
 rw [e]
 simp only [if_neg hm]
theorem byte_none {t : ByteArray} (h : t.size ≠ 1) : (match t.data.toList with | [c] => some c | _ => none) = (none : Option UInt8) := by
 obtain ⟨⟨l⟩⟩ := t
 match l, h with
 | [], _ => rfl
 | [c], h => exact absurd rfl h
 | _ :: _ :: _, _ => rfl
theorem ver_no {P : FiP} {s : FiS} {z : Sy} {p : Int} {L M : List Tm} {most : Int} (h : unsealG s.y (P.m.i 9) most L = (.ok (z, p), M)) (hk : (getT M p).1.K = 1) (hs : (getT M p).1.S.size ≠ 1) :
  fiVersion P s most L = (.error 3, M) := by
 unfold fiVersion
 rw [G.to_ok h]
 have e : byteF M p = none := by unfold byteF; rw [if_pos hk]; exact byte_none hs
 unfold verG verF
 rw [e]
theorem ver_bad {P : FiP} {s : FiS} {e : Int} {L M : List Tm} {most : Int} (h : textG s.y (P.m.i 9) most L = (.error e, M)) : fiVersion P s most L = (.error e, M) := by
 rcases text_no h with h1 | ⟨z, p, h1, hk, he⟩
 ·exact G.to_bad h1
 ·subst he
  unfold fiVersion
  rw [G.to_ok h1]
  have e : byteF M p = none := by unfold byteF; rw [if_neg hk]
  unfold verG verF
  rw [e]
section
variable {base g B : Nat} {most : Int} {Q2 : (Nat → Prop) → List Tm → World → Prop} {L L' L2 : List Tm} {bs : List (Nat × Obj)} {w0 w w' : World}
set_option maxHeartbeats 1000000 in
theorem fi_check (g2 : Good base Q2) {P : FiP} {s : FiS} (h : Tk base g most Q2 L L2 bs B 151 s.y (P.rest s) w0 w) (hw : Ms.Ms.Wf P.m) :
  Calls Tryz.prog 95 #[.pointer (some ⟨B, 0, none⟩)] w (Gp (fiCheck P s most L) (fun _ => .tuple #[]) (fun L' x w' => Tk base g most Q2 L' L2 bs B 151 x.y (P.rest x) w0 w') (fun L' w' => Cs base (PSq base g most) Q2 L' L2 bs w0 w')) := by
 have HT := Lib.hid h
 have HHW := Lib.hid hw
 clear h hw
 by_cases hc : P.m.i 0 = 2 ∧ Ms.rightM P.m = true
 ·have HG : Hid (fiCheck P s most L = (.ok s, L)) := Lib.hid (by unfold fiCheck; rw [if_pos hc])
  have m0 := HT.out.at 9 rfl
  have m1 := HT.out.at 10 rfl
  have m2 := HT.out.at 11 rfl
  have m3 := HT.out.at 12 rfl
  have m4 := HT.out.at 13 rfl
  have m5 := HT.out.at 14 rfl
  have m6 := HT.out.at 15 rfl
  have m7 := HT.out.at 16 rfl
  have m8 := HT.out.at 17 rfl
  have m9 := HT.out.at 18 rfl
  have m10 := HT.out.at 19 rfl
  have m11 := HT.out.at 20 rfl
  have m12 := HT.out.at 21 rfl
  have HC := Lib.hid hc
  clear hc
  go_enter Tryz.func95, Tryz.ntmps95
  go_wp2_with fail
  refine (mustBe_yes (P.m) 2 _ HHW.out HC.out.1 HC.out.2).mono ?_
  rintro e' w1 ⟨rfl, hb⟩
  replace HT := Lib.hid (HT.out.below g2 hb)
  clear hb
  go_wp2_with fail
  go_end0
  exact .inl ⟨_, _, HG.out, rfl, HT.out⟩
 ·have HG : Hid (fiCheck P s most L = (.error 3, L)) := Lib.hid (by unfold fiCheck; rw [if_neg hc])
  have m0 := HT.out.at 9 rfl
  have m1 := HT.out.at 10 rfl
  have m2 := HT.out.at 11 rfl
  have m3 := HT.out.at 12 rfl
  have m4 := HT.out.at 13 rfl
  have m5 := HT.out.at 14 rfl
  have m6 := HT.out.at 15 rfl
  have m7 := HT.out.at 16 rfl
  have m8 := HT.out.at 17 rfl
  have m9 := HT.out.at 18 rfl
  have m10 := HT.out.at 19 rfl
  have m11 := HT.out.at 20 rfl
  have m12 := HT.out.at 21 rfl
  have HC := Lib.hid hc
  clear hc
  go_enter Tryz.func95, Tryz.ntmps95
  go_wp2_with fail
  refine (mustBe_no (P.m) 2 _ HHW.out HC.out).mono ?_
  rintro e' w1 ⟨rfl, hb⟩
  replace HT := Lib.hid (HT.out.below g2 hb)
  clear hb
  unfold Fell
  go_wp2_with fail
  exact ⟨rfl, .inr ⟨_, _, HG.out, by decide, rfl, HT.out.fall⟩⟩
set_option maxHeartbeats 1000000 in
theorem fi_hearE (g2 : Good base Q2) {P : FiP} {s : FiS} (h : Tk base g most Q2 L L2 bs B 151 s.y (P.rest s) w0 w) (hx : I64 (P.m.i 6)) :
  Calls Tryz.prog 96 #[.pointer (some ⟨B, 0, none⟩)] w (Gp (fiHear P s most L) (fun _ => .tuple #[]) (fun L' x w' => Tk base g most Q2 L' L2 bs B 151 x.y (P.rest x) w0 w') (fun L' w' => Cs base (PSq base g most) Q2 L' L2 bs w0 w')) := by
 have HT := Lib.hid h
 have HHX := Lib.hid hx
 clear h hx
 go_enter Tryz.func96, Tryz.ntmps96
 replace HT := Lib.hid (HT.out.drew g2)
 refine wp_region_held_drew (S := (fun W => W.cell? ⟨B, 20, none⟩ = some (.int .i64 (P.m.i 6)))) (by kernel_rfl) ((HT.out.at 15 rfl)) (fun hHeld => ?_)
 refine tk 0 (h := ?_)
 refine tk 1 (h := ?_)
 refine tk 2 (h := ?_)
 refine tk 3 (h := ?_)
 refine tk 4 (h := ?_)
 refine tk 5 (h := ?_)
 refine tk 6 (h := ?_)
 refine tk 7 (hy := fun W hSw => by ((have q := hSw; go_simp) <;> with_reducible rfl)) (h := ?_)
 refine rd 8 (h := fun K' hK => ?_)
 go_simp
 go_at_call 136
 refine (tk_hash g2 HT.out HHX.out).mono ?_
 rintro e' W1 (⟨z, ME1, hm, rfl, hT⟩ | ⟨c, ME1, hm, hc, rfl, hT⟩)
 ·have E1 := Lib.hid hm
  have HTold := HT
  replace HT := Lib.hid hT
  clear hm hT
  go_wp2_with fail
  refine hK.out _ _ ((HT.out.at 15 rfl)) (fun hHeld => ?_)
  clear hK K'
  try simp only [Act.put, p1, p2, p3]
  refine wpAnyH_done (by kernel_rfl) ?_ _
  go_wp2_with fail
  go_end0
  exact .inl ⟨{ s with y := z }, _, by unfold fiHear; exact (G.to_ok E1.out).trans (rfl), rfl, HT.out⟩
 ·unfold Fell
  go_wp2_with fail
  exact ⟨rfl, .inr ⟨_, _, by unfold fiHear; exact G.to_bad hm, hc, rfl, hT⟩⟩
set_option maxHeartbeats 1000000 in
theorem fi_mixE (g2 : Good base Q2) {P : FiP} {s : FiS} (h : Tk base g most Q2 L L2 bs B 151 s.y (P.rest s) w0 w) (hx : I64 P.p.e) :
  Calls Tryz.prog 97 #[.pointer (some ⟨B, 0, none⟩)] w (Gp (fiMixE P s most L) (fun _ => .tuple #[]) (fun L' x w' => Tk base g most Q2 L' L2 bs B 151 x.y (P.rest x) w0 w') (fun L' w' => Cs base (PSq base g most) Q2 L' L2 bs w0 w')) := by
 have HT := Lib.hid h
 have HHX := Lib.hid hx
 clear h hx
 go_enter Tryz.func97, Tryz.ntmps97
 replace HT := Lib.hid (HT.out.drew g2)
 refine wp_region_held_drew (S := (fun W => W.cell? ⟨B, 11, none⟩ = some (.int .i64 P.p.e) ∧ W.cell? ⟨B, 20, none⟩ = some (.int .i64 (P.m.i 6)))) (by kernel_rfl) (⟨(HT.out.at 6 rfl), (HT.out.at 15 rfl)⟩) (fun hHeld => ?_)
 refine tk 0 (h := ?_)
 refine tk 1 (h := ?_)
 refine tk 2 (h := ?_)
 refine tk 3 (h := ?_)
 refine tk 4 (h := ?_)
 refine tk 5 (h := ?_)
 refine tk 6 (h := ?_)
 refine tk 7 (hy := fun W hSw => by ((obtain ⟨q11, q20⟩ := hSw; go_simp) <;> with_reducible rfl)) (h := ?_)
 refine tk 8 (h := ?_)
 refine tk 9 (h := ?_)
 refine tk 10 (h := ?_)
 refine tk 11 (h := ?_)
 refine tk 12 (hy := fun W hSw => by ((obtain ⟨q11, q20⟩ := hSw; go_simp) <;> with_reducible rfl)) (h := ?_)
 refine rd 13 (h := fun K' hK => ?_)
 go_simp
 go_at_call 119
 refine (tk_share g2 HT.out HHX.out).mono ?_
 rintro e' W1 (⟨z, ME1, hm, rfl, hT⟩ | ⟨c, ME1, hm, hc, rfl, hT⟩)
 ·have E1 := Lib.hid hm
  have HTold := HT
  replace HT := Lib.hid hT
  clear hm hT
  go_wp2_with fail
  refine hK.out _ _ (⟨(HT.out.at 6 rfl), (HT.out.at 15 rfl)⟩) (fun hHeld => ?_)
  clear hK K'
  try simp only [Act.put, p1, p2, p3]
  refine wpAnyH_done (by kernel_rfl) ?_ _
  go_wp2_with fail
  go_end0
  exact .inl ⟨{ s with y := z }, _, by unfold fiMixE; exact (G.to_ok E1.out).trans (rfl), rfl, HT.out⟩
 ·unfold Fell
  go_wp2_with fail
  exact ⟨rfl, .inr ⟨_, _, by unfold fiMixE; exact G.to_bad hm, hc, rfl, hT⟩⟩
set_option maxHeartbeats 1000000 in
theorem fi_mixMe (g2 : Good base Q2) {P : FiP} {s : FiS} (h : Tk base g most Q2 L L2 bs B 151 s.y (P.rest s) w0 w) (hx : I64 P.x1) :
  Calls Tryz.prog 98 #[.pointer (some ⟨B, 0, none⟩)] w (Gp (fiMixMe P s most L) (fun _ => .tuple #[]) (fun L' x w' => Tk base g most Q2 L' L2 bs B 151 x.y (P.rest x) w0 w') (fun L' w' => Cs base (PSq base g most) Q2 L' L2 bs w0 w')) := by
 have HT := Lib.hid h
 have HHX := Lib.hid hx
 clear h hx
 go_enter Tryz.func98, Tryz.ntmps98
 replace HT := Lib.hid (HT.out.drew g2)
 refine wp_region_held_drew (S := (fun W => W.cell? ⟨B, 5, none⟩ = some (.int .i64 P.x1) ∧ W.cell? ⟨B, 20, none⟩ = some (.int .i64 (P.m.i 6)))) (by kernel_rfl) (⟨(HT.out.at 0 rfl), (HT.out.at 15 rfl)⟩) (fun hHeld => ?_)
 refine tk 0 (h := ?_)
 refine tk 1 (h := ?_)
 refine tk 2 (h := ?_)
 refine tk 3 (h := ?_)
 refine tk 4 (h := ?_)
 refine tk 5 (h := ?_)
 refine tk 6 (h := ?_)
 refine tk 7 (hy := fun W hSw => by ((obtain ⟨q5, q20⟩ := hSw; go_simp) <;> with_reducible rfl)) (h := ?_)
 refine tk 8 (h := ?_)
 refine tk 9 (h := ?_)
 refine tk 10 (h := ?_)
 refine tk 11 (h := ?_)
 refine tk 12 (hy := fun W hSw => by ((obtain ⟨q5, q20⟩ := hSw; go_simp) <;> with_reducible rfl)) (h := ?_)
 refine rd 13 (h := fun K' hK => ?_)
 go_simp
 go_at_call 119
 refine (tk_share g2 HT.out HHX.out).mono ?_
 rintro e' W1 (⟨z, ME1, hm, rfl, hT⟩ | ⟨c, ME1, hm, hc, rfl, hT⟩)
 ·have E1 := Lib.hid hm
  have HTold := HT
  replace HT := Lib.hid hT
  clear hm hT
  go_wp2_with fail
  refine hK.out _ _ (⟨(HT.out.at 0 rfl), (HT.out.at 15 rfl)⟩) (fun hHeld => ?_)
  clear hK K'
  try simp only [Act.put, p1, p2, p3]
  refine wpAnyH_done (by kernel_rfl) ?_ _
  go_wp2_with fail
  go_end0
  exact .inl ⟨{ s with y := z }, _, by unfold fiMixMe; exact (G.to_ok E1.out).trans (rfl), rfl, HT.out⟩
 ·unfold Fell
  go_wp2_with fail
  exact ⟨rfl, .inr ⟨_, _, by unfold fiMixMe; exact G.to_bad hm, hc, rfl, hT⟩⟩
set_option maxHeartbeats 1000000 in
theorem fi_unwrapSecret (g2 : Good base Q2) {P : FiP} {s : FiS} (h : Tk base g most Q2 L L2 bs B 151 s.y (P.rest s) w0 w) (hx : I64 P.p.ek) (hy : I64 (P.m.i 8)) :
  Calls Tryz.prog 99 #[.pointer (some ⟨B, 0, none⟩)] w (Gp (fiUnwrap P s most L) (fun _ => .tuple #[]) (fun L' x w' => Tk base g most Q2 L' L2 bs B 151 x.y (P.rest x) w0 w') (fun L' w' => Cs base (PSq base g most) Q2 L' L2 bs w0 w')) := by
 have HT := Lib.hid h
 have HHX := Lib.hid hx
 have HHY := Lib.hid hy
 clear h hx hy
 go_enter Tryz.func99, Tryz.ntmps99
 replace HT := Lib.hid (HT.out.drew g2)
 refine wp_region_held_drew (S := (fun W => W.cell? ⟨B, 12, none⟩ = some (.int .i64 P.p.ek) ∧ W.cell? ⟨B, 22, none⟩ = some (.int .i64 (P.m.i 8)))) (by kernel_rfl) (⟨(HT.out.at 7 rfl), (HT.out.at 17 rfl)⟩) (fun hHeld => ?_)
 refine tk 0 (h := ?_)
 refine tk 1 (h := ?_)
 refine tk 2 (h := ?_)
 refine tk 3 (h := ?_)
 refine tk 4 (h := ?_)
 refine tk 5 (h := ?_)
 refine tk 6 (h := ?_)
 refine tk 7 (hy := fun W hSw => by ((obtain ⟨q12, q22⟩ := hSw; go_simp) <;> with_reducible rfl)) (h := ?_)
 refine tk 8 (h := ?_)
 refine tk 9 (h := ?_)
 refine tk 10 (h := ?_)
 refine tk 11 (h := ?_)
 refine tk 12 (hy := fun W hSw => by ((obtain ⟨q12, q22⟩ := hSw; go_simp) <;> with_reducible rfl)) (h := ?_)
 refine rd 13 (h := fun K' hK => ?_)
 go_simp
 go_at_call 137
 refine (tk_unwrap g2 HT.out HHX.out HHY.out).mono ?_
 rintro e' W1 (⟨z, ME1, hm, rfl, hT⟩ | ⟨c, ME1, hm, hc, rfl, hT⟩)
 ·have E1 := Lib.hid hm
  have HTold := HT
  replace HT := Lib.hid hT
  clear hm hT
  go_wp2_with fail
  refine hK.out _ _ (⟨(HT.out.at 7 rfl), (HT.out.at 17 rfl)⟩) (fun hHeld => ?_)
  clear hK K'
  try simp only [Act.put, p1, p2, p3]
  refine wpAnyH_done (by kernel_rfl) ?_ _
  go_wp2_with fail
  go_end0
  exact .inl ⟨{ s with y := z }, _, by unfold fiUnwrap; exact (G.to_ok E1.out).trans (rfl), rfl, HT.out⟩
 ·unfold Fell
  go_wp2_with fail
  exact ⟨rfl, .inr ⟨_, _, by unfold fiUnwrap; exact G.to_bad hm, hc, rfl, hT⟩⟩
set_option maxHeartbeats 1000000 in
theorem fi_end (g2 : Good base Q2) {P : FiP} {s : FiS} (h : Tk base g most Q2 L L2 bs B 151 s.y (P.rest s) w0 w)  :
  Calls Tryz.prog 101 #[.pointer (some ⟨B, 0, none⟩)] w (Gp (fiEnd P s most L) (fun _ => .tuple #[]) (fun L' x w' => Tk base g most Q2 L' L2 bs B 151 x.y (P.rest x) w0 w') (fun L' w' => Cs base (PSq base g most) Q2 L' L2 bs w0 w')) := by
 have HT := Lib.hid h
 clear h
 go_enter Tryz.func101, Tryz.ntmps101
 go_wp2_with fail
 refine (tk_split g2 HT.out).mono ?_
 rintro e' W1 (⟨⟨k1, k2⟩, M1, hm, rfl, hT⟩ | ⟨c, M1, hm, hc, rfl, hT⟩)
 ·have E1 := Lib.hid hm
  replace HT := Lib.hid hT
  clear hm hT
  have ds1 := HT.out.cl 28 (by decide) rfl
  have df1 := HT.out.fz 28
  have ds2 := HT.out.cl 29 (by decide) rfl
  have df2 := HT.out.fz 29
  have ds0 := HT.out.cl 27 (by decide) rfl
  have df0 := HT.out.fz 27
  have c3 := HT.out.c3
  go_wp2_with fail
  replace HT := Lib.hid (((HT.out.put g2 23 (.int .i64 k1)).put g2 24 (.int .i64 k2)).put g2 22 (.int .i64 s.y.H))
  go_end0
  exact .inl ⟨{ s with h := s.y.H, send := k1, recv := k2 }, _, by unfold fiEnd; exact (G.to_ok E1.out).trans rfl, rfl, HT.out⟩
 ·unfold Fell
  go_wp2_with fail
  exact ⟨rfl, .inr ⟨_, _, by unfold fiEnd; exact G.to_bad hm, hc, rfl, hT⟩⟩
set_option maxHeartbeats 1000000 in
theorem fi_openVersion (g2 : Good base Q2) {P : FiP} {s : FiS} (h : Tk base g most Q2 L L2 bs B 151 s.y (P.rest s) w0 w) (hx : I64 (P.m.i 9)) :
  Calls Tryz.prog 100 #[.pointer (some ⟨B, 0, none⟩)] w (Gp (fiVersion P s most L) (fun _ => .tuple #[]) (fun L' x w' => Tk base g most Q2 L' L2 bs B 151 x.y (P.rest x) w0 w') (fun L' w' => Cs base (PSq base g most) Q2 L' L2 bs w0 w')) := by
 have HT := Lib.hid h
 have HHX := Lib.hid hx
 clear h hx
 go_enter Tryz.func100, Tryz.ntmps100
 go_wp2_with fail
 replace HT := Lib.hid (HT.out.drew g2)
 refine wp_region_held_drew (S := (fun W => W.cell? ⟨B, 23, none⟩ = some (.int .i64 (P.m.i 9)))) (by kernel_rfl) ((HT.out.at 18 rfl)) (fun hHeld => ?_)
 refine tk 0 (h := ?_)
 refine tk 1 (h := ?_)
 refine tk 2 (h := ?_)
 refine tk 3 (h := ?_)
 refine tk 4 (h := ?_)
 refine tk 5 (h := ?_)
 refine tk 6 (h := ?_)
 refine tk 7 (hy := fun W hSw => by ((have q := hSw; go_simp) <;> with_reducible rfl)) (h := ?_)
 refine rd 8 (h := fun K' hK => ?_)
 go_simp
 go_at_call 141
 refine (tk_opentext g2 HT.out HHX.out).mono ?_
 rintro e' W1 (⟨⟨z, t⟩, M1, hm, rfl, hT, hsz⟩ | ⟨c, M1, hm, hc, rfl, hT⟩)
 ·obtain ⟨p, hu, hk, hs⟩ := text_inv hm
  have HU := Lib.hid (And.intro hu (And.intro hk hs))
  replace HT := Lib.hid hT
  clear hm hT hsz hu hk hs
  go_wp2_with fail
  refine hK.out _ _ ((HT.out.at 18 rfl)) (fun hHeld => ?_)
  clear hK K'
  try simp only [Act.put, p1, p2, p3]
  refine tk 9 (h := ?_)
  refine wpAnyH_done (by kernel_rfl) ?_ _
  by_cases hl : t.size = 1
  ·obtain ⟨c, rfl⟩ := one_byte hl
   have hne : (((ByteArray.size ⟨#[c]⟩ : Nat) : Int) != 1) = false := rfl
   have c13 := HT.out.at 8 rfl
   clear hl
   go_wp2_with fail
   refine (Tryz.strings_Contains_one P.p.offer c _).mono ?_
   rintro e' W2 ⟨rfl, rfl⟩
   by_cases hi : c ∈ P.p.offer.data.toList
   ·have hd : decide (0 ≤ Lib.indexByte P.p.offer.data.toList c) = true := by simpa using (index_mem c _).2 hi
    have HG : Hid (fiVersion P s most L = (.ok { s with y := z, version := (c.toNat : Int) }, M1)) := Lib.hid (ver_ok HU.out.1 HU.out.2.1 HU.out.2.2 hi)
    rw [hd]
    have dst := HT.out.at 25 rfl
    have dfz := HT.out.fz 30
    clear hi hd
    go_wp2_with fail
    go_end0
    have HWR : Hid (wrap64 (c.toNat : Int) = (c.toNat : Int)) := Lib.hid (by have := c.toNat_lt; unfold wrap64; omega)
    have h8 : Tk base g most Q2 M1 L2 bs B 151 z ((P.rest s).set 25 (.int .i64 (c.toNat : Int))) w0 (W2.setCell ⟨B, 30, none⟩ (.int .i64 (wrap64 (c.toNat : Int)))) := by rw [HWR.out]; exact HT.out.put g2 25 _
    exact .inl ⟨_, _, HG.out, rfl, h8⟩
   ·have hd : decide (0 ≤ Lib.indexByte P.p.offer.data.toList c) = false := by simpa using fun q => hi ((index_mem c _).1 q)
    have HG : Hid (fiVersion P s most L = (.error 11, M1)) := Lib.hid (ver_none HU.out.1 HU.out.2.1 HU.out.2.2 hi)
    rw [hd]
    clear hi hd
    go_wp2_with fail
    exact ⟨rfl, .inr ⟨_, _, HG.out, by decide, rfl, HT.out.fall⟩⟩
  ·have hne : (((t.size : Nat) : Int) != 1) = true := by simpa using fun q : (t.size : Int) = 1 => hl (by omega)
   have HG : Hid (fiVersion P s most L = (.error 3, M1)) := Lib.hid (ver_no HU.out.1 HU.out.2.1 (by rw [HU.out.2.2]; exact hl))
   clear hl
   go_wp2_with fail
   exact ⟨rfl, .inr ⟨_, _, HG.out, by decide, rfl, HT.out.fall⟩⟩
 ·have HG := Lib.hid (ver_bad (P := P) (s := s) hm)
  unfold Fell
  go_wp2_with fail
  exact ⟨rfl, .inr ⟨_, _, HG.out, hc, rfl, hT⟩⟩
end
abbrev errO (c : Int) : Obj := .cells #[.int .i64 c] 34 (0, 0)
theorem turn_G {σ : Type} {n : Nat} {f : Nat → Nat} {ks : List (σ → G σ)} {t : Value} {most : Int} {St : Nat → List Tm → σ → World → Prop} {Fl : List Tm → World → Prop} {s0 : σ} {L0 : List Tm} (hl : ks.length = n)
  (he : ∀ i, i < n → ∀ (args : Array Value) (w : World), (callFunc (f i) args).run Tryz.prog w = .ok (.enter (f i) args) w)
  (hs : ∀ i k, ks[i]? = some k → ∀ L s w, St i L s w → Calls Tryz.prog (f i) #[t] w (Gp (k s most L) (fun _ => .tuple #[]) (fun L' s' w' => St (i + 1) L' s' w') Fl))
  (b off cap : Nat) (w : World) (hn : n ≤ 100) (h0 : St 0 L0 s0 (w.alloc (.cells #[.int .i64 0] 34)))
  (hrow : ∀ i L s u, St i L s u → i < n → u.cell? ⟨b, off + i, none⟩ = some (.func (.func (f i)) #[t] #[]))
  (hfr : ∀ i L s u, St i L s u → u.cell? ⟨w.heap.size, 0, none⟩ = some (.int .i64 0) ∧ u.frozen? ⟨w.heap.size, 0, none⟩ = false) (hbd : ∀ L u, Fl L u → u.cell? ⟨w.heap.size, 0, none⟩ = some (.int .i64 0) ∧ u.frozen? ⟨w.heap.size, 0, none⟩ = false) :
  Calls Tryz.prog 49 #[.slice (some ⟨b, off, none⟩) n cap] w fun e w' => (∃ s L' u, seqG ks s0 most L0 = (.ok s, L') ∧ e = .returned (.int .i64 0) ∧ St n L' s u ∧ w' = u.setCell ⟨w.heap.size, 0, none⟩ (.int .i64 0)) ∨ ∃ c L' u, seqG ks s0 most L0 = (.error c, L') ∧ c ≠ 0 ∧ e = .returned (.int .i64 c) ∧ Fl L' u ∧ w' = u.setCell ⟨w.heap.size, 0, none⟩ (.int .i64 c) := by
 have hst : Steps n f t (fun i u => ∃ L s, seqG (ks.take i) s0 most L0 = (.ok s, L) ∧ St i L s u) (fun c u => ∃ i L, seqG (ks.take i) s0 most L0 = (.error c, L) ∧ Fl L u) := by
  intro i hi
  refine ⟨he i hi, ?_⟩
  rintro u ⟨L, s, h1, h2⟩
  have hk : ks[i]? = some (ks[i]'(by omega)) := List.getElem?_eq_getElem (by omega)
  have ht : ks.take (i + 1) = ks.take i ++ [ks[i]'(by omega)] := List.take_succ_eq_append_getElem (by omega)
  refine (hs i _ hk L s u h2).mono ?_
  rintro e w' (⟨x, L', hm, rfl, hx⟩ | ⟨c, L', hm, hc, rfl, hx⟩)
  ·exact .inl ⟨rfl, L', x, by rw [ht, seqG_snoc, G.to_ok h1]; exact hm, hx⟩
  ·exact .inr ⟨c, hc, rfl, i + 1, L', by rw [ht, seqG_snoc, G.to_ok h1]; exact hm, hx⟩
 refine (turn_any hst b off cap w hn ⟨L0, s0, rfl, h0⟩ (fun i u ⟨L, s, _, h⟩ hi => hrow i L s u h hi) (fun i u ⟨L, s, _, h⟩ => hfr i L s u h) (fun c u ⟨i, L, _, h⟩ => hbd L u h)).mono ?_
 rintro e w' (⟨u, rfl, ⟨L, s, h1, h2⟩, rfl⟩ | ⟨c, u, hc, rfl, ⟨i, L, h1, h2⟩, rfl⟩)
 ·rw [List.take_of_length_le (by omega)] at h1
  exact .inl ⟨s, L, u, h1, rfl, h2, rfl⟩
 ·have := seqG_bad (ks.take i) (ks.drop i) h1
  rw [List.take_append_drop] at this
  exact .inr ⟨c, L, u, this, hc, rfl, h2, rfl⟩
theorem Cs.boxN {base : Nat} {Q1 Q2 : (Nat → Prop) → List Tm → World → Prop} {L1 L2 : List Tm} {bs : List (Nat × Obj)} {w0 w : World} (g1 : Good base Q1) (g2 : Good base Q2) (h : Cs base Q1 Q2 L1 L2 bs w0 w) (cs : Array Value) (t : TypeId) {b : Nat} (hb : w.heap.size = b) :
  Cs base Q1 Q2 L1 L2 ((b, (.cells cs t (0, 0) : Obj)) :: bs) w0 (w.alloc (.cells cs t : Obj)) := by
 subst hb
 exact h.box g1 g2 cs t
theorem cells2 {u : World} {B : Nat} {x y : Value} {T : TypeId} (h : u.heap[B]? = some (.cells #[x, y] T (0, 0))) : u.cell? ⟨B, 0, none⟩ = some x ∧ u.cell? ⟨B, 1, none⟩ = some y := by
 refine ⟨?_, ?_⟩
 all_goals simp [World.cell?, h]
theorem cells4 {u : World} {B : Nat} {x y z q : Value} {T : TypeId} (h : u.heap[B]? = some (.cells #[x, y, z, q] T (0, 0))) : u.cell? ⟨B, 0, none⟩ = some x ∧ u.cell? ⟨B, 1, none⟩ = some y ∧ u.cell? ⟨B, 2, none⟩ = some z ∧ u.cell? ⟨B, 3, none⟩ = some q := by
 refine ⟨?_, ?_, ?_, ?_⟩
 all_goals simp [World.cell?, h]
theorem zeroY_wf : zeroY.Wf := ⟨k0, k0, k0, u64_small (x := 0) (by decide) (by decide)⟩
end Go.Proofs.YtgeonppckeiceaaGreatDoor
