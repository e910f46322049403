/- The first peer of a public key: the library's IndexFunc over a row of peers, by the program's closure. -/
/- The steps of Open (by tools/stage17/steps.py). -/
import Derived.Test.YtgeonppckeiceaaGreatDoorGq21
import Derived.Lib.Hide
import Derived.Test.YtgeonppckeiceaaGreatDoorGq01
namespace Go.Proofs.YtgeonppckeiceaaGreatDoor
open Go.RowKit
set_option linter.unusedVariables false
set_option linter.unusedSimpArgs false
set_option maxRecDepth 20000
def Cap (c B : Nat) (pub : Int) (w : World) : Prop := w.cell? ⟨c, 0, none⟩ = some (.pointer (some ⟨B, 0, none⟩)) ∧ w.cell? ⟨B, 31, none⟩ = some (.int .i64 pub)
theorem Cap.below {c B : Nat} {pub : Int} {w w' : World} (h : Cap c B pub w) (hb : Below w.heap.size w w') : Cap c B pub w' :=
 ⟨(hb.cell (block_lt_of_cell h.1)).trans h.1, (hb.cell (block_lt_of_cell h.2)).trans h.2⟩
theorem RowP.below {w w' : World} {a : Option Addr} {ps : List Pr} (h : RowP w a ps) (hb : Below w.heap.size w w') : RowP w' a ps := by
 obtain ⟨b, off, hr⟩ := h
 refine ⟨b, off, fun j hj => ?_⟩
 obtain ⟨h0, h1, h2, h3, h4⟩ := hr j hj
 exact ⟨h0, (hb.cell (block_lt_of_cell h1)).trans h1, (hb.cell (block_lt_of_cell h2)).trans h2, (hb.cell (block_lt_of_cell h3)).trans h3, (hb.cell (block_lt_of_cell h4)).trans h4⟩
set_option maxHeartbeats 1000000 in
theorem is_pub {c B : Nat} {pub : Int} (dh kem k0 k1 : Int) (u : World) (h : Cap c B pub u) :
  Calls Tryz.prog 140 #[.agg #[.int .i64 dh, .int .i64 kem, .int .i64 k0, .int .i64 k1], .pointer (some ⟨c, 0, none⟩)] u fun e w' => e = .returned (.bool (dh == pub)) ∧ Below u.heap.size u w' := by
 have hb := Lib.hid (below_alloc u (.cells #[.int .i64 dh, .int .i64 kem, .int .i64 k0, .int .i64 k1] 43 : Obj))
 have d := h.below hb.out
 have l1 := block_lt_of_cell h.1
 have l2 := block_lt_of_cell h.2
 have d1 := d.1
 have d2 := d.2
 have HU := Lib.hid h
 clear h d
 go_enter Tryz.func140, Tryz.ntmps140
 go_wp2
 go_quiet (fail)
 go_wp2
 go_ret
 exact ⟨rfl, hb.out.trans ((drewN_below _ _).mono (by simp))⟩
def idxP (pub : Int) (ps : List Pr) : Int := if ps.findIdx (fun p => p.dh == pub) < ps.length then ps.findIdx (fun p => p.dh == pub) else -1
theorem idxP_here {pub : Int} {ps : List Pr} {k : Nat} (hk : k < ps.length) (hb : ∀ x, x ∈ ps.take k → (x.dh == pub) = false) (h : ((ps.getD k zeroPr).dh == pub) = true) : ps.findIdx (fun p => p.dh == pub) = k := by
 have e : ps.getD k zeroPr = ps[k] := by simp [List.getD, hk]
 rw [e] at h
 rw [List.findIdx_eq hk]
 refine ⟨h, fun j hj => ?_⟩
 have := hb (ps[j]'(by omega)) (by rw [List.mem_take_iff_getElem]; exact ⟨j, by omega, rfl⟩)
 simpa using this
theorem idxP_none {pub : Int} {ps : List Pr} (hb : ∀ x, x ∈ ps → (x.dh == pub) = false) : ps.findIdx (fun p => p.dh == pub) = ps.length := by
 rw [List.findIdx_eq_length]
 exact hb
theorem who_idx (pub : Int) (ps : List Pr) : (∃ i : Nat, whoF (ps.map Pr.dh) pub = some i ∧ idxP pub ps = (i : Int) ∧ i < ps.length) ∨ (whoF (ps.map Pr.dh) pub = none ∧ idxP pub ps = -1) := by
 have e : (ps.map Pr.dh).findIdx (· == pub) = ps.findIdx (fun p => p.dh == pub) := by
  rw [List.findIdx_map]
  rfl
 unfold whoF idxP
 rw [e, List.length_map]
 by_cases h : ps.findIdx (fun p => p.dh == pub) < ps.length
 ·rw [if_pos h, if_pos h]
  exact .inl ⟨_, rfl, rfl, h⟩
 ·rw [if_neg h, if_neg h]
  exact .inr ⟨rfl, rfl⟩
set_option maxHeartbeats 4000000 in
set_option maxRecDepth 100000 in
theorem index_p {c B : Nat} {pub : Int} (a : Option Addr) (n cap : Nat) (ps : List Pr) (w : World) (hn : n = ps.length) (hn2 : n ≤ 1000000) (h : RowP w a ps) (ho : Cap c B pub w) :
  Calls Tryz.prog 139 #[.slice a n cap, .func (.func 140) #[] #[.pointer (some ⟨c, 0, none⟩)]] w fun e w' => e = .returned (.int .i64 (idxP pub ps)) ∧ Below w.heap.size w w' := by
 have eg : ∀ (args : Array Value) (w : World), (callFunc 140 args).run Tryz.prog w = .ok (.enter 140 args) w := fun args w => enters_of Tryz.func140 (by kernel_rfl) rfl args w
 have HR := Lib.hid h
 have HN := Lib.hid hn
 have HO := Lib.hid ho
 have hn63 : n ≤ 9223372036854775807 := by omega
 clear h hn ho
 go_enter Tryz.func139, Tryz.ntmps139
 go_wp2_with fail
 go_loopw [8] (fun i wr => ∃ (k : Nat), k ≤ n ∧ i = .int .i64 k ∧ Hid (∀ x, x ∈ ps.take k → (x.dh == pub) = false) ∧ Hid (Below w.heap.size w wr)) (fun i _ => n - (intOf i).toNat)
 case atStart => exact ⟨0, Nat.zero_le _, rfl, Lib.hid (by simp), Lib.hid (Below.refl _ _)⟩
 case round =>
  obtain ⟨k, hk, rfl, HX, HB⟩ := hrel
  by_cases hlt : k < n
  ·have hlt' : (k : Int) < (n : Int) := by omega
   obtain ⟨b1, f1, hq⟩ := HR.out.below HB.out
   obtain ⟨rfl, c0, c1, c2, c3⟩ := hq k (by rw [← HN.out]; exact hlt)
   clear hq
   have HI : Hid (((ps.getD k zeroPr).dh == pub) = true → ps.findIdx (fun p => p.dh == pub) = k) := Lib.hid (fun q => idxP_here (by rw [← HN.out]; exact hlt) HX.out q)
   have HT1 : Hid (ps.take (k + 1) = ps.take k ++ [ps.getD k zeroPr]) := Lib.hid (by
    have hk2 : k < ps.length := by rw [← HN.out]; exact hlt
    rw [List.take_succ_eq_append_getElem hk2]; simp [List.getD, hk2])
   generalize ps.getD k zeroPr = z at c0 c1 c2 c3 HI HT1
   obtain ⟨zd, zk, z0, z1⟩ := z
   dsimp only at c0 c1 c2 c3 HI HT1
   have HK := Lib.hid hlt
   have HOr : Hid (Cap c B pub wr) := Lib.hid (HO.out.below HB.out)
   clear hlt hk
   cases hp : (zd == pub) with
   | true =>
    have HE : Hid (idxP pub ps = (k : Int)) := Lib.hid (by unfold idxP; rw [HI.out hp, if_pos (by have := HK.out; have := HN.out; omega)])
    have HP := Lib.hid hp
    clear hp
    go_wp2_with fail
    refine (is_pub zd zk z0 z1 _ HOr.out).mono ?_
    rintro e w2 ⟨rfl, hb2⟩
    have HB2 : Hid (Below w.heap.size w w2) := Lib.hid (HB.out.trans (hb2.mono HB.out.size))
    rw [HP.out]
    clear hb2
    go_wp2
    go_ret
    exact ⟨by rw [HE.out]; rfl, HB2.out⟩
   | false =>
    have HX2 : Hid (∀ x, x ∈ ps.take (k + 1) → (x.dh == pub) = false) := Lib.hid (fun x hx => by
     rw [HT1.out] at hx
     rcases List.mem_append.1 hx with q | q
     ·exact HX.out x q
     ·rw [List.mem_singleton.1 q]; exact hp)
    have HP := Lib.hid hp
    clear hp
    go_wp2_with fail
    refine (is_pub zd zk z0 z1 _ HOr.out).mono ?_
    rintro e w2 ⟨rfl, hb2⟩
    have HB2 : Hid (Below w.heap.size w w2) := Lib.hid (HB.out.trans (hb2.mono HB.out.size))
    rw [HP.out]
    clear hb2
    go_wp2_with fail
    go_roundw
    case rel => exact ⟨k + 1, by have := HK.out; omega, by go_num, HX2, HB2⟩
    case measure => have := HK.out; simp [intOf]; omega
  ·obtain rfl : k = n := by omega
   have HE : Hid (idxP pub ps = -1) := Lib.hid (by
    have e : ps.take k = ps := by rw [List.take_of_length_le (by rw [← HN.out]; exact Nat.le_refl _)]
    have hx := HX.out
    rw [e] at hx
    unfold idxP
    rw [idxP_none hx, if_neg (by omega)])
   clear hlt
   go_wp2
   go_ret
   exact ⟨by rw [HE.out]; rfl, HB.out⟩
theorem publicsG_ok {L L' : List Tm} {most x y p q : Int} (h : hPublics most L (x, y) = ((p, q), 0, L')) : publicsG (x, y) most L = (.ok (p, q), L') := by
 obtain ⟨a, e1, L1, h1⟩ : ∃ a e M, putF L most (pubT x) = (a, e, M) := ⟨_, _, _, rfl⟩
 by_cases hz : e1 = 0
 ·subst hz
  obtain ⟨b, e2, L2, h2⟩ : ∃ a e M, putF L1 most (kpubT y) = (a, e, M) := ⟨_, _, _, rfl⟩
  by_cases hz2 : e2 = 0
  ·subst hz2
   have hw : publicsG (x, y) most L = (.ok (a, b), L2) := by unfold publicsG; rw [G.to_ok (putG_ok h1), G.to_ok (putG_ok h2)]; rfl
   unfold hPublics at h
   rw [hw] at h ⊢
   injection h with q1 q2
   injection q2 with q3 q4
   injection q1 with q5 q6
   rw [q5, q6, q4]
  ·have hw : publicsG (x, y) most L = (.error e2, L2) := by unfold publicsG; rw [G.to_ok (putG_ok h1), G.to_bad (putG_no h2 hz2)]
   unfold hPublics at h
   rw [hw] at h
   injection h with q1 q2
   injection q2 with q3 q4
   exact absurd q3 hz2
 ·have hw : publicsG (x, y) most L = (.error e1, L1) := by unfold publicsG; rw [G.to_bad (putG_no h1 hz)]
  unfold hPublics at h
  rw [hw] at h
  injection h with q1 q2
  injection q2 with q3 q4
  exact absurd q3 hz
theorem publicsG_no {L L' : List Tm} {most x y p q e : Int} (h : hPublics most L (x, y) = ((p, q), e, L')) (he : e ≠ 0) : publicsG (x, y) most L = (.error e, L') := by
 unfold hPublics at h
 cases hp : publicsG (x, y) most L with
 | mk r M =>
  rw [hp] at h
  cases r with
  | ok v => injection h with q1 q2; injection q2 with q3 q4; exact absurd q3.symm he
  | error c => injection h with q1 q2; injection q2 with q3 q4; rw [q3, q4]
theorem publics_i64 {L L' : List Tm} {most x y p q e : Int} (hl : (L.length : Int) ≤ most) (hm : most ≤ 1048576) (hf : Fit L) (h : hPublics most L (x, y) = ((p, q), e, L')) : I64 p ∧ I64 q := by
 obtain ⟨a, e1, L1, h1⟩ : ∃ a e M, putF L most (pubT x) = (a, e, M) := ⟨_, _, _, rfl⟩
 have f1 := fit_putF (t := pubT x) hf hl
 rw [h1] at f1
 unfold hPublics publicsG at h
 by_cases hz : e1 = 0
 ·subst hz
  obtain ⟨b, e2, L2, h2⟩ : ∃ a e M, putF L1 most (kpubT y) = (a, e, M) := ⟨_, _, _, rfl⟩
  by_cases hz2 : e2 = 0
  ·subst hz2
   rw [G.to_ok (putG_ok h1), G.to_ok (putG_ok h2)] at h
   injection h with q1 q2
   injection q1 with q5 q6
   rw [← q5, ← q6]
   exact ⟨name_i64 hl hm h1, name_i64 f1.2 hm h2⟩
  ·rw [G.to_ok (putG_ok h1), G.to_bad (putG_no h2 hz2)] at h
   injection h with q1 q2
   injection q1 with q5 q6
   rw [← q5, ← q6]
   exact ⟨k0, k0⟩
 ·rw [G.to_bad (putG_no h1 hz)] at h
  injection h with q1 q2
  injection q1 with q5 q6
  rw [← q5, ← q6]
  exact ⟨k0, k0⟩
section
variable {base g B : Nat} {most : Int} {Q2 : (Nat → Prop) → List Tm → World → Prop} {L L' L2 : List Tm} {bs : List (Nat × Obj)} {w0 w w' : World}
set_option maxHeartbeats 1000000 in
theorem op_check (g2 : Good base Q2) {P : OpP} {s : OpS} (h : Tk base g most Q2 L L2 bs B 140 s.y (P.rest s) w0 w) (hw : Ms.Ms.Wf P.m) :
  Calls Tryz.prog 70 #[.pointer (some ⟨B, 0, none⟩)] w (Gp (opCheck P s most L) (fun _ => .tuple #[]) (fun L' x w' => Tk base g most Q2 L' L2 bs B 140 x.y (P.rest x) w0 w') (fun L' w' => Cs base (PSq base g most) Q2 L' L2 bs w0 w')) := by
 have HT := Lib.hid h
 have HHW := Lib.hid hw
 clear h hw
 by_cases hc : P.m.i 0 = 1 ∧ Ms.rightM P.m = true
 ·have HG : Hid (opCheck P s most L = (.ok s, L)) := Lib.hid (by unfold opCheck; rw [if_pos hc])
  have m0 := HT.out.at 4 rfl
  have m1 := HT.out.at 5 rfl
  have m2 := HT.out.at 6 rfl
  have m3 := HT.out.at 7 rfl
  have m4 := HT.out.at 8 rfl
  have m5 := HT.out.at 9 rfl
  have m6 := HT.out.at 10 rfl
  have m7 := HT.out.at 11 rfl
  have m8 := HT.out.at 12 rfl
  have m9 := HT.out.at 13 rfl
  have m10 := HT.out.at 14 rfl
  have m11 := HT.out.at 15 rfl
  have m12 := HT.out.at 16 rfl
  have HC := Lib.hid hc
  clear hc
  go_enter Tryz.func70, Tryz.ntmps70
  go_wp2_with fail
  refine (mustBe_yes (P.m) 1 _ HHW.out HC.out.1 HC.out.2).mono ?_
  rintro e' w1 ⟨rfl, hb⟩
  replace HT := Lib.hid (HT.out.below g2 hb)
  clear hb
  go_wp2_with fail
  go_end0
  exact .inl ⟨_, _, HG.out, rfl, HT.out⟩
 ·have HG : Hid (opCheck P s most L = (.error 3, L)) := Lib.hid (by unfold opCheck; rw [if_neg hc])
  have m0 := HT.out.at 4 rfl
  have m1 := HT.out.at 5 rfl
  have m2 := HT.out.at 6 rfl
  have m3 := HT.out.at 7 rfl
  have m4 := HT.out.at 8 rfl
  have m5 := HT.out.at 9 rfl
  have m6 := HT.out.at 10 rfl
  have m7 := HT.out.at 11 rfl
  have m8 := HT.out.at 12 rfl
  have m9 := HT.out.at 13 rfl
  have m10 := HT.out.at 14 rfl
  have m11 := HT.out.at 15 rfl
  have m12 := HT.out.at 16 rfl
  have HC := Lib.hid hc
  clear hc
  go_enter Tryz.func70, Tryz.ntmps70
  go_wp2_with fail
  refine (mustBe_no (P.m) 1 _ HHW.out HC.out).mono ?_
  rintro e' w1 ⟨rfl, hb⟩
  replace HT := Lib.hid (HT.out.below g2 hb)
  clear hb
  unfold Fell
  go_wp2_with fail
  exact ⟨rfl, .inr ⟨_, _, HG.out, by decide, rfl, HT.out.fall⟩⟩
set_option maxHeartbeats 1000000 in
theorem op_chooseVersion (g2 : Good base Q2) {P : OpP} {s : OpS} (h : Tk base g most Q2 L L2 bs B 140 s.y (P.rest s) w0 w) (ha : P.mine.size ≤ maxLen) (hb : P.m.s.size ≤ maxLen) :
  Calls Tryz.prog 71 #[.pointer (some ⟨B, 0, none⟩)] w (Gp (opVersion P s most L) (fun _ => .tuple #[]) (fun L' x w' => Tk base g most Q2 L' L2 bs B 140 x.y (P.rest x) w0 w') (fun L' w' => Cs base (PSq base g most) Q2 L' L2 bs w0 w')) := by
 have HT := Lib.hid h
 have HHA := Lib.hid ha
 have HHB := Lib.hid hb
 obtain ⟨v, er, hbi⟩ : ∃ v er, Ms.BestIs P.mine P.m.s v er := ⟨_, _, rfl, rfl⟩
 have HBI := Lib.hid hbi
 have HGO : Hid (er = 0 → opVersion P s most L = (.ok { s with version := v }, L)) := Lib.hid (fun q => by unfold opVersion; rw [hbi.2, hbi.1, if_pos q])
 have HGN : Hid (er ≠ 0 → opVersion P s most L = (.error er, L)) := Lib.hid (fun q => by unfold opVersion; rw [hbi.2, if_neg q])
 clear hbi
 clear h ha hb
 go_enter Tryz.func71, Tryz.ntmps71
 replace HT := Lib.hid (HT.out.drew g2)
 refine wp_region_held_drew (S := (fun W => W.cell? ⟨B, 8, none⟩ = some (.string P.mine) ∧ W.cell? ⟨B, 12, none⟩ = some (.string P.m.s))) (by kernel_rfl) (⟨(HT.out.at 3 rfl), (HT.out.at 7 rfl)⟩) (fun hHeld => ?_)
 refine tk 0 (h := ?_)
 refine tk 1 (h := ?_)
 refine tk 2 (h := ?_)
 refine tk 3 (h := ?_)
 refine tk 4 (hy := fun W hSw => by ((obtain ⟨q8, q12⟩ := hSw; go_simp) <;> with_reducible rfl)) (h := ?_)
 refine tk 5 (h := ?_)
 refine tk 6 (h := ?_)
 refine tk 7 (h := ?_)
 refine tk 8 (h := ?_)
 refine tk 9 (hy := fun W hSw => by ((obtain ⟨q8, q12⟩ := hSw; go_simp) <;> with_reducible rfl)) (h := ?_)
 refine rd 10 (h := fun K' hK => ?_)
 go_simp
 go_at_call 35
 refine (Ms.best_any P.mine P.m.s _ HHA.out HHB.out v er HBI).mono ?_
 rintro e' W1 ⟨rfl, hb⟩
 replace HT := Lib.hid (HT.out.below g2 hb)
 clear hb
 go_wp2_with fail
 refine hK.out _ _ (⟨(HT.out.at 3 rfl), (HT.out.at 7 rfl)⟩) (fun hHeld => ?_)
 clear hK K'
 try simp only [Act.put, p1, p2, p3]
 refine tk 11 (h := ?_)
 refine tk 12 (h := ?_)
 refine rd 13 (h := fun K' hK => ?_)
 go_simp
 go_at_call 118
 by_cases he : er = 0
 ·have HGE := Lib.hid (HGO.out he)
  subst he
  refine (got_yes _ _).mono ?_
  rintro e' W2 ⟨rfl, rfl⟩
  go_wp2_with fail
  refine hK.out _ _ (⟨(HT.out.at 3 rfl), (HT.out.at 7 rfl)⟩) (fun hHeld => ?_)
  clear hK K'
  try simp only [Act.put, p1, p2, p3]
  refine tk 14 (h := ?_)
  refine tk 15 (h := ?_)
  refine tk 16 (h := ?_)
  refine rd 17 (h := fun K' hK => ?_)
  have dst := HT.out.at 22 rfl
  have dfz := HT.out.fz 27
  go_simp
  replace HT := Lib.hid (HT.out.put g2 22 (.int .i64 v))
  clear dst dfz
  refine hK.out _ _ (⟨(HT.out.at 3 rfl), (HT.out.at 7 rfl)⟩) (fun hHeld => ?_)
  clear hK K'
  try simp only [Act.put, p1, p2, p3]
  refine wpAnyH_done (by kernel_rfl) ?_ _
  go_wp2_with fail
  go_end0
  exact .inl ⟨_, _, HGE.out, rfl, HT.out⟩
 ·have HE := Lib.hid he
  clear he
  refine (got_no _ _ HE.out _).mono ?_
  rintro e' W2 ⟨rfl, rfl⟩
  unfold Fell
  go_wp2_with fail
  exact ⟨rfl, .inr ⟨_, _, HGN.out HE.out, HE.out, rfl, HT.out.fall⟩⟩
set_option maxHeartbeats 1000000 in
theorem op_first (g2 : Good base Q2) {P : OpP} {s : OpS} (h : Tk base g most Q2 L L2 bs B 140 s.y (P.rest s) w0 w) (ho1 : P.m.s.size ≤ maxLen) (hs : P.m.i 4 = 0 ∨ P.m.i 4 = 1) (hx : I64 P.x1) (hy : I64 P.x2) :
  Calls Tryz.prog 72 #[.pointer (some ⟨B, 0, none⟩)] w (Gp (opFirst P s most L) (fun _ => .tuple #[]) (fun L' x w' => Tk base g most Q2 L' L2 bs B 140 x.y (P.rest x) w0 w') (fun L' w' => Cs base (PSq base g most) Q2 L' L2 bs w0 w')) := by
 have HT := Lib.hid h
 have HHO1 := Lib.hid ho1
 have HHS := Lib.hid hs
 have HHX := Lib.hid hx
 have HHY := Lib.hid hy
 clear h ho1 hs hx hy
 go_enter Tryz.func72, Tryz.ntmps72
 replace HT := Lib.hid (HT.out.drew g2)
 refine wp_region_held_drew (S := (fun W => W.cell? ⟨B, 12, none⟩ = some (.string P.m.s) ∧ W.cell? ⟨B, 13, none⟩ = some (.int .i64 (P.m.i 4)) ∧ W.cell? ⟨B, 0, none⟩ = some (.pointer (some ⟨g, 0, none⟩)) ∧ W.cell? ⟨B, 5, none⟩ = some (.int .i64 P.x1) ∧ W.cell? ⟨B, 6, none⟩ = some (.int .i64 P.x2))) (by kernel_rfl) (⟨(HT.out.at 7 rfl), (HT.out.at 8 rfl), HT.out.c0, (HT.out.at 0 rfl), (HT.out.at 1 rfl)⟩) (fun hHeld => ?_)
 refine tk 0 (h := ?_)
 refine tk 1 (h := ?_)
 refine tk 2 (h := ?_)
 refine tk 3 (h := ?_)
 refine tk 4 (h := ?_)
 refine tk 5 (h := ?_)
 refine tk 6 (h := ?_)
 refine tk 7 (hy := fun W hSw => by ((obtain ⟨q12, q13, q0, q5, q6⟩ := hSw; go_simp) <;> with_reducible rfl)) (h := ?_)
 refine tk 8 (h := ?_)
 refine tk 9 (h := ?_)
 refine tk 10 (h := ?_)
 refine tk 11 (h := ?_)
 refine tk 12 (hy := fun W hSw => by ((obtain ⟨q12, q13, q0, q5, q6⟩ := hSw; go_simp) <;> with_reducible rfl)) (h := ?_)
 refine tk 13 (h := ?_)
 refine tk 14 (h := ?_)
 refine tk 15 (h := ?_)
 refine tk 16 (h := ?_)
 refine tk 17 (hy := fun W hSw => by ((obtain ⟨q12, q13, q0, q5, q6⟩ := hSw; go_simp) <;> with_reducible rfl)) (h := ?_)
 refine tk 18 (h := ?_)
 refine tk 19 (h := ?_)
 refine tk 20 (h := ?_)
 refine tk 21 (hy := fun W hSw => by ((obtain ⟨q12, q13, q0, q5, q6⟩ := hSw; go_simp) <;> with_reducible rfl)) (h := ?_)
 refine rd 22 (h := fun K' hK => ?_)
 obtain ⟨p, q, e, M0, hf⟩ : ∃ p q e M0, hPublics most L (P.x1, P.x2) = ((p, q), e, M0) := ⟨_, _, _, _, rfl⟩
 have HF := Lib.hid hf
 have HPI := Lib.hid (publics_i64 HT.out.facts.2.1 HT.out.facts.2.2 HT.out.facts.1 hf)
 clear hf
 go_simp
 go_at_call 14
 refine (HT.out.cs.hpub g2 HHX.out HHY.out HF.out).mono ?_
 rintro e' W1 ⟨rfl, hc⟩
 replace HT := Lib.hid (Tk.mk hc HT.out.lo HT.out.new HT.out.wf)
 clear hc
 go_wp2_with fail
 refine hK.out _ _ (⟨(HT.out.at 7 rfl), (HT.out.at 8 rfl), HT.out.c0, (HT.out.at 0 rfl), (HT.out.at 1 rfl)⟩) (fun hHeld => ?_)
 clear hK K'
 try simp only [Act.put, p1, p2, p3]
 refine tk 23 (h := ?_)
 refine tk 24 (h := ?_)
 refine rd 25 (h := fun K' hK => ?_)
 go_simp
 go_at_call 135
 by_cases he : e = 0
 ·subst he
  refine (gotS_yes _ _ _).mono ?_
  rintro e' W2 ⟨rfl, hb⟩
  replace HT := Lib.hid (HT.out.below g2 hb)
  clear hb
  go_wp2_with fail
  refine hK.out _ _ (⟨(HT.out.at 7 rfl), (HT.out.at 8 rfl), HT.out.c0, (HT.out.at 0 rfl), (HT.out.at 1 rfl)⟩) (fun hHeld => ?_)
  clear hK K'
  try simp only [Act.put, p1, p2, p3]
  refine rd 26 (h := fun K' hK => ?_)
  go_simp
  go_at_call 116
  refine (tk_first g2 HT.out HHO1.out HHS.out HPI.out.1 HPI.out.2).mono ?_
  rintro e' W1 (⟨z, ME1, hm, rfl, hT⟩ | ⟨c, ME1, hm, hc, rfl, hT⟩)
  ·have E1 := Lib.hid hm
   have HTold := HT
   replace HT := Lib.hid hT
   clear hm hT
   go_wp2_with fail
   refine hK.out _ _ (⟨(HT.out.at 7 rfl), (HT.out.at 8 rfl), HT.out.c0, (HT.out.at 0 rfl), (HT.out.at 1 rfl)⟩) (fun hHeld => ?_)
   clear hK K'
   try simp only [Act.put, p1, p2, p3]
   refine wpAnyH_done (by kernel_rfl) ?_ _
   go_wp2_with fail
   go_end0
   exact .inl ⟨{ s with y := z }, _, by unfold opFirst; exact (G.to_ok (publicsG_ok HF.out)).trans ((G.to_ok E1.out).trans (rfl)), rfl, HT.out⟩
  ·unfold Fell
   go_wp2_with fail
   exact ⟨rfl, .inr ⟨_, _, by unfold opFirst; exact (G.to_ok (publicsG_ok HF.out)).trans (G.to_bad hm), hc, rfl, hT⟩⟩
 ·have HE := Lib.hid he
  clear he
  refine (gotS_no _ _ _ HE.out _).mono ?_
  rintro e' W2 ⟨rfl, hb⟩
  replace HT := Lib.hid (HT.out.below g2 hb)
  clear hb
  unfold Fell
  go_wp2_with fail
  exact ⟨rfl, .inr ⟨_, _, by unfold opFirst; exact G.to_bad (publicsG_no HF.out HE.out), HE.out, rfl, HT.out.fall⟩⟩
set_option maxHeartbeats 1000000 in
theorem op_mixE (g2 : Good base Q2) {P : OpP} {s : OpS} (h : Tk base g most Q2 L L2 bs B 140 s.y (P.rest s) w0 w) (hx : I64 P.x1) :
  Calls Tryz.prog 74 #[.pointer (some ⟨B, 0, none⟩)] w (Gp (opMixE P s most L) (fun _ => .tuple #[]) (fun L' x w' => Tk base g most Q2 L' L2 bs B 140 x.y (P.rest x) w0 w') (fun L' w' => Cs base (PSq base g most) Q2 L' L2 bs w0 w')) := by
 have HT := Lib.hid h
 have HHX := Lib.hid hx
 clear h hx
 go_enter Tryz.func74, Tryz.ntmps74
 replace HT := Lib.hid (HT.out.drew g2)
 refine wp_region_held_drew (S := (fun W => W.cell? ⟨B, 5, none⟩ = some (.int .i64 P.x1) ∧ W.cell? ⟨B, 15, none⟩ = some (.int .i64 (P.m.i 6)))) (by kernel_rfl) (⟨(HT.out.at 0 rfl), (HT.out.at 10 rfl)⟩) (fun hHeld => ?_)
 refine tk 0 (h := ?_)
 refine tk 1 (h := ?_)
 refine tk 2 (h := ?_)
 refine tk 3 (h := ?_)
 refine tk 4 (h := ?_)
 refine tk 5 (h := ?_)
 refine tk 6 (h := ?_)
 refine tk 7 (hy := fun W hSw => by ((obtain ⟨q5, q15⟩ := hSw; go_simp) <;> with_reducible rfl)) (h := ?_)
 refine tk 8 (h := ?_)
 refine tk 9 (h := ?_)
 refine tk 10 (h := ?_)
 refine tk 11 (h := ?_)
 refine tk 12 (hy := fun W hSw => by ((obtain ⟨q5, q15⟩ := hSw; go_simp) <;> with_reducible rfl)) (h := ?_)
 refine rd 13 (h := fun K' hK => ?_)
 go_simp
 go_at_call 119
 refine (tk_share g2 HT.out HHX.out).mono ?_
 rintro e' W1 (⟨z, ME1, hm, rfl, hT⟩ | ⟨c, ME1, hm, hc, rfl, hT⟩)
 ·have E1 := Lib.hid hm
  have HTold := HT
  replace HT := Lib.hid hT
  clear hm hT
  go_wp2_with fail
  refine hK.out _ _ (⟨(HT.out.at 0 rfl), (HT.out.at 10 rfl)⟩) (fun hHeld => ?_)
  clear hK K'
  try simp only [Act.put, p1, p2, p3]
  refine wpAnyH_done (by kernel_rfl) ?_ _
  go_wp2_with fail
  go_end0
  exact .inl ⟨{ s with y := z }, _, by unfold opMixE; exact (G.to_ok E1.out).trans (rfl), rfl, HT.out⟩
 ·unfold Fell
  go_wp2_with fail
  exact ⟨rfl, .inr ⟨_, _, by unfold opMixE; exact G.to_bad hm, hc, rfl, hT⟩⟩
set_option maxHeartbeats 1000000 in
theorem op_unwrapSecret (g2 : Good base Q2) {P : OpP} {s : OpS} (h : Tk base g most Q2 L L2 bs B 140 s.y (P.rest s) w0 w) (hx : I64 P.x2) (hy : I64 (P.m.i 8)) :
  Calls Tryz.prog 75 #[.pointer (some ⟨B, 0, none⟩)] w (Gp (opUnwrap P s most L) (fun _ => .tuple #[]) (fun L' x w' => Tk base g most Q2 L' L2 bs B 140 x.y (P.rest x) w0 w') (fun L' w' => Cs base (PSq base g most) Q2 L' L2 bs w0 w')) := by
 have HT := Lib.hid h
 have HHX := Lib.hid hx
 have HHY := Lib.hid hy
 clear h hx hy
 go_enter Tryz.func75, Tryz.ntmps75
 replace HT := Lib.hid (HT.out.drew g2)
 refine wp_region_held_drew (S := (fun W => W.cell? ⟨B, 6, none⟩ = some (.int .i64 P.x2) ∧ W.cell? ⟨B, 17, none⟩ = some (.int .i64 (P.m.i 8)))) (by kernel_rfl) (⟨(HT.out.at 1 rfl), (HT.out.at 12 rfl)⟩) (fun hHeld => ?_)
 refine tk 0 (h := ?_)
 refine tk 1 (h := ?_)
 refine tk 2 (h := ?_)
 refine tk 3 (h := ?_)
 refine tk 4 (h := ?_)
 refine tk 5 (h := ?_)
 refine tk 6 (h := ?_)
 refine tk 7 (hy := fun W hSw => by ((obtain ⟨q6, q17⟩ := hSw; go_simp) <;> with_reducible rfl)) (h := ?_)
 refine tk 8 (h := ?_)
 refine tk 9 (h := ?_)
 refine tk 10 (h := ?_)
 refine tk 11 (h := ?_)
 refine tk 12 (hy := fun W hSw => by ((obtain ⟨q6, q17⟩ := hSw; go_simp) <;> with_reducible rfl)) (h := ?_)
 refine rd 13 (h := fun K' hK => ?_)
 go_simp
 go_at_call 137
 refine (tk_unwrap g2 HT.out HHX.out HHY.out).mono ?_
 rintro e' W1 (⟨z, ME1, hm, rfl, hT⟩ | ⟨c, ME1, hm, hc, rfl, hT⟩)
 ·have E1 := Lib.hid hm
  have HTold := HT
  replace HT := Lib.hid hT
  clear hm hT
  go_wp2_with fail
  refine hK.out _ _ (⟨(HT.out.at 1 rfl), (HT.out.at 12 rfl)⟩) (fun hHeld => ?_)
  clear hK K'
  try simp only [Act.put, p1, p2, p3]
  refine wpAnyH_done (by kernel_rfl) ?_ _
  go_wp2_with fail
  go_end0
  exact .inl ⟨{ s with y := z }, _, by unfold opUnwrap; exact (G.to_ok E1.out).trans (rfl), rfl, HT.out⟩
 ·unfold Fell
  go_wp2_with fail
  exact ⟨rfl, .inr ⟨_, _, by unfold opUnwrap; exact G.to_bad hm, hc, rfl, hT⟩⟩
set_option maxHeartbeats 1000000 in
theorem op_openPub (g2 : Good base Q2) {P : OpP} {s : OpS} (h : Tk base g most Q2 L L2 bs B 140 s.y (P.rest s) w0 w) (hx : I64 (P.m.i 9)) :
  Calls Tryz.prog 76 #[.pointer (some ⟨B, 0, none⟩)] w (Gp (opPub P s most L) (fun _ => .tuple #[]) (fun L' x w' => Tk base g most Q2 L' L2 bs B 140 x.y (P.rest x) w0 w') (fun L' w' => Cs base (PSq base g most) Q2 L' L2 bs w0 w')) := by
 have HT := Lib.hid h
 have HHX := Lib.hid hx
 clear h hx
 go_enter Tryz.func76, Tryz.ntmps76
 replace HT := Lib.hid (HT.out.drew g2)
 refine wp_region_held_drew (S := (fun W => W.cell? ⟨B, 18, none⟩ = some (.int .i64 (P.m.i 9)))) (by kernel_rfl) ((HT.out.at 13 rfl)) (fun hHeld => ?_)
 refine tk 0 (h := ?_)
 refine tk 1 (h := ?_)
 refine tk 2 (h := ?_)
 refine tk 3 (h := ?_)
 refine tk 4 (h := ?_)
 refine tk 5 (h := ?_)
 refine tk 6 (h := ?_)
 refine tk 7 (h := ?_)
 refine tk 8 (hy := fun W hSw => by ((have q := hSw; go_simp) <;> with_reducible rfl)) (h := ?_)
 refine rd 9 (h := fun K' hK => ?_)
 go_simp
 go_at_call 138
 refine (tk_open g2 HT.out HHX.out).mono ?_
 rintro e' W1 (⟨⟨z, c⟩, ME1, hm, rfl, hT⟩ | ⟨c, ME1, hm, hc, rfl, hT⟩)
 ·have E1 := Lib.hid hm
  have HTold := HT
  replace HT := Lib.hid hT
  clear hm hT
  go_wp2_with fail
  refine hK.out _ _ ((HT.out.at 13 rfl)) (fun hHeld => ?_)
  clear hK K'
  try simp only [Act.put, p1, p2, p3]
  refine tk 10 (h := ?_)
  refine tk 11 (h := ?_)
  refine tk 12 (h := ?_)
  refine rd 13 (h := fun K' hK => ?_)
  have dst := HT.out.at 26 rfl
  have dfz := HT.out.fz 31
  go_simp
  replace HT := Lib.hid (HT.out.put g2 26 (.int .i64 c))
  clear dst dfz
  refine hK.out _ _ ((HT.out.at 13 rfl)) (fun hHeld => ?_)
  clear hK K'
  try simp only [Act.put, p1, p2, p3]
  refine wpAnyH_done (by kernel_rfl) ?_ _
  go_wp2_with fail
  go_end0
  exact .inl ⟨{ s with pub := c, y := z }, _, by unfold opPub; exact (G.to_ok E1.out).trans (rfl), rfl, HT.out⟩
 ·unfold Fell
  go_wp2_with fail
  exact ⟨rfl, .inr ⟨_, _, by unfold opPub; exact G.to_bad hm, hc, rfl, hT⟩⟩
set_option maxHeartbeats 1000000 in
theorem op_mixPub (g2 : Good base Q2) {P : OpP} {s : OpS} (h : Tk base g most Q2 L L2 bs B 140 s.y (P.rest s) w0 w) (hx : I64 P.x1) :
  Calls Tryz.prog 78 #[.pointer (some ⟨B, 0, none⟩)] w (Gp (opMixPub P s most L) (fun _ => .tuple #[]) (fun L' x w' => Tk base g most Q2 L' L2 bs B 140 x.y (P.rest x) w0 w') (fun L' w' => Cs base (PSq base g most) Q2 L' L2 bs w0 w')) := by
 have HT := Lib.hid h
 have HHX := Lib.hid hx
 clear h hx
 go_enter Tryz.func78, Tryz.ntmps78
 replace HT := Lib.hid (HT.out.drew g2)
 refine wp_region_held_drew (S := (fun W => W.cell? ⟨B, 5, none⟩ = some (.int .i64 P.x1) ∧ W.cell? ⟨B, 31, none⟩ = some (.int .i64 s.pub))) (by kernel_rfl) (⟨(HT.out.at 0 rfl), (HT.out.at 26 rfl)⟩) (fun hHeld => ?_)
 refine tk 0 (h := ?_)
 refine tk 1 (h := ?_)
 refine tk 2 (h := ?_)
 refine tk 3 (h := ?_)
 refine tk 4 (h := ?_)
 refine tk 5 (h := ?_)
 refine tk 6 (h := ?_)
 refine tk 7 (hy := fun W hSw => by ((obtain ⟨q5, q31⟩ := hSw; go_simp) <;> with_reducible rfl)) (h := ?_)
 refine tk 8 (h := ?_)
 refine tk 9 (h := ?_)
 refine tk 10 (h := ?_)
 refine tk 11 (h := ?_)
 refine tk 12 (hy := fun W hSw => by ((obtain ⟨q5, q31⟩ := hSw; go_simp) <;> with_reducible rfl)) (h := ?_)
 refine rd 13 (h := fun K' hK => ?_)
 go_simp
 go_at_call 119
 refine (tk_share g2 HT.out HHX.out).mono ?_
 rintro e' W1 (⟨z, ME1, hm, rfl, hT⟩ | ⟨c, ME1, hm, hc, rfl, hT⟩)
 ·have E1 := Lib.hid hm
  have HTold := HT
  replace HT := Lib.hid hT
  clear hm hT
  go_wp2_with fail
  refine hK.out _ _ (⟨(HT.out.at 0 rfl), (HT.out.at 26 rfl)⟩) (fun hHeld => ?_)
  clear hK K'
  try simp only [Act.put, p1, p2, p3]
  refine wpAnyH_done (by kernel_rfl) ?_ _
  go_wp2_with fail
  go_end0
  exact .inl ⟨{ s with y := z }, _, by unfold opMixPub; exact (G.to_ok E1.out).trans (rfl), rfl, HT.out⟩
 ·unfold Fell
  go_wp2_with fail
  exact ⟨rfl, .inr ⟨_, _, by unfold opMixPub; exact G.to_bad hm, hc, rfl, hT⟩⟩
set_option maxHeartbeats 1000000 in
theorem op_hearKeys (g2 : Good base Q2) {P : OpP} {s : OpS} (h : Tk base g most Q2 L L2 bs B 140 s.y (P.rest s) w0 w) (hx : I64 (P.m.i 6)) (hy : I64 (P.m.i 7)) :
  Calls Tryz.prog 73 #[.pointer (some ⟨B, 0, none⟩)] w (Gp (opHear P s most L) (fun _ => .tuple #[]) (fun L' x w' => Tk base g most Q2 L' L2 bs B 140 x.y (P.rest x) w0 w') (fun L' w' => Cs base (PSq base g most) Q2 L' L2 bs w0 w')) := by
 have HT := Lib.hid h
 have HHX := Lib.hid hx
 have HHY := Lib.hid hy
 clear h hx hy
 go_enter Tryz.func73, Tryz.ntmps73
 go_wp2_with fail
 replace HT := Lib.hid (HT.out.drew g2)
 refine wp_region_held_drew (S := (fun W => W.cell? ⟨B, 15, none⟩ = some (.int .i64 (P.m.i 6)))) (by kernel_rfl) ((HT.out.at 10 rfl)) (fun hHeld => ?_)
 refine tk 0 (h := ?_)
 refine tk 1 (h := ?_)
 refine tk 2 (h := ?_)
 refine tk 3 (h := ?_)
 refine tk 4 (h := ?_)
 refine tk 5 (h := ?_)
 refine tk 6 (h := ?_)
 refine tk 7 (hy := fun W hSw => by ((have q := hSw; go_simp) <;> with_reducible rfl)) (h := ?_)
 refine rd 8 (h := fun K' hK => ?_)
 go_simp
 go_at_call 136
 refine (tk_hash g2 HT.out HHX.out).mono ?_
 rintro e' W1 (⟨z, ME1, hm, rfl, hT⟩ | ⟨c, ME1, hm, hc, rfl, hT⟩)
 ·have E1 := Lib.hid hm
  have HTold := HT
  replace HT := Lib.hid hT
  clear hm hT
  go_wp2_with fail
  refine hK.out _ _ ((HT.out.at 10 rfl)) (fun hHeld => ?_)
  clear hK K'
  try simp only [Act.put, p1, p2, p3]
  refine wpAnyH_done (by kernel_rfl) ?_ _
  go_wp2_with fail
  replace HT := Lib.hid (HT.out.drew g2)
  refine wp_region_held_drew (S := (fun W => W.cell? ⟨B, 16, none⟩ = some (.int .i64 (P.m.i 7)))) (by kernel_rfl) ((HT.out.at 11 rfl)) (fun hHeld => ?_)
  refine tk 0 (h := ?_)
  refine tk 1 (h := ?_)
  refine tk 2 (h := ?_)
  refine tk 3 (h := ?_)
  refine tk 4 (h := ?_)
  refine tk 5 (h := ?_)
  refine tk 6 (h := ?_)
  refine tk 7 (hy := fun W hSw => by ((have q := hSw; go_simp) <;> with_reducible rfl)) (h := ?_)
  refine rd 8 (h := fun K' hK => ?_)
  go_simp
  go_at_call 136
  refine (tk_hash g2 HT.out HHY.out).mono ?_
  rintro e' W1 (⟨z2, ME2, hm, rfl, hT⟩ | ⟨c, ME2, hm, hc, rfl, hT⟩)
  ·have E2 := Lib.hid hm
   have HTold := HT
   replace HT := Lib.hid hT
   clear hm hT
   go_wp2_with fail
   refine hK.out _ _ ((HT.out.at 11 rfl)) (fun hHeld => ?_)
   clear hK K'
   try simp only [Act.put, p1, p2, p3]
   refine wpAnyH_done (by kernel_rfl) ?_ _
   go_wp2_with fail
   go_end0
   exact .inl ⟨{ s with y := z2 }, _, by unfold opHear; exact (G.to_ok E1.out).trans ((G.to_ok E2.out).trans (rfl)), rfl, HT.out⟩
  ·unfold Fell
   go_wp2_with fail
   exact ⟨rfl, .inr ⟨_, _, by unfold opHear; exact (G.to_ok E1.out).trans (G.to_bad hm), hc, rfl, hT⟩⟩
 ·unfold Fell
  go_wp2_with fail
  exact ⟨rfl, .inr ⟨_, _, by unfold opHear; exact G.to_bad hm, hc, rfl, hT⟩⟩
end
end Go.Proofs.YtgeonppckeiceaaGreatDoor
