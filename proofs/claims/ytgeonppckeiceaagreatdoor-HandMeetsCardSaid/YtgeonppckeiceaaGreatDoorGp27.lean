/- What a talk says, wraps and unwraps (by tools/stage17/talk.py). -/
/- What a text is that a talk opens (by tools/stage17/talk.py). -/
import Derived.Test.YtgeonppckeiceaaGreatDoorGp26
import Derived.Deep.RegionHeld3
namespace Go.Proofs.YtgeonppckeiceaaGreatDoor
open Go.RowKit
set_option linter.unusedVariables false
set_option linter.unusedSimpArgs false
set_option maxRecDepth 20000
section
variable {base g B : Nat} {most : Int} {Q2 : (Nat → Prop) → List Tm → World → Prop} {L L' L2 : List Tm} {bs : List (Nat × Obj)} {T : TypeId} {y y' : Sy} {rest : List Value} {w0 w w' : World}
set_option maxHeartbeats 1000000 in
theorem tk_say (g2 : Good base Q2) (h : Tk base g most Q2 L L2 bs B T y rest w0 w) {x : Int} (hx : I64 x) :
    Calls Tryz.prog 117 #[.pointer (some ⟨B, 0, none⟩), .int .i64 x] w (Gp (sayG y x most L) (fun _ => .int .i64 x) (fun L' x w' => Tk base g most Q2 L' L2 bs B T x rest w0 w') (fun L' w' => Cs base (PSq base g most) Q2 L' L2 bs w0 w')) := by
  have HFA := Lib.hid h.facts
  have HSO := Lib.hid h.cs.sound
  have HX := Lib.hid hx
  have HT := Lib.hid h
  clear h hx
  go_enter Tryz.func117, Tryz.ntmps117
  go_wp2_with fail
  refine (tk_hash g2 HT.out HX.out).mono ?_
  rintro e' W2 (⟨xx, M, hm, rfl, hT⟩ | ⟨c, M, hm, hc, rfl, hT⟩)
  · have HM := Lib.hid hm
    replace HT := Lib.hid hT
    clear hm hT
    go_wp2_with fail
    go_ret
    exact .inl ⟨_, _, HM.out, rfl, HT.out⟩
  · unfold Fell
    go_wp2_with fail
    refine ⟨rfl, .inr ⟨_, _, hm, hc, rfl, hT⟩⟩
set_option maxHeartbeats 1000000 in
theorem tk_share (g2 : Good base Q2) (h : Tk base g most Q2 L L2 bs B T y rest w0 w) {x p : Int} (hx : I64 x) :
    Calls Tryz.prog 119 #[.pointer (some ⟨B, 0, none⟩), .int .i64 x, .int .i64 p] w (Gp (agreeG y x p most L) (fun _ => .tuple #[]) (fun L' x w' => Tk base g most Q2 L' L2 bs B T x rest w0 w') (fun L' w' => Cs base (PSq base g most) Q2 L' L2 bs w0 w')) := by
  have HFA := Lib.hid h.facts
  have HSO := Lib.hid h.cs.sound
  have HX := Lib.hid hx
  have HT := Lib.hid h
  clear h hx
  go_enter Tryz.func119, Tryz.ntmps119
  obtain ⟨a, e, L1, hf⟩ : ∃ a e L1, agreeF L most x p = (a, e, L1) := ⟨_, _, _, rfl⟩
  have HF := Lib.hid hf
  have HFs := Lib.hid (agree_sd HT.out.cs.sound hf)
  have HFi := Lib.hid (agree_i64 HT.out.facts.2.1 HT.out.facts.2.2 hf)
  clear hf
  have c0 := HT.out.c0
  have c1 := HT.out.c1
  have c2 := HT.out.c2
  have c3 := HT.out.c3
  have c4 := HT.out.c4
  go_wp2_with fail
  refine (HT.out.cs.pair.agreeP g2 HX.out HF.out).mono ?_
  rintro e' W1 ⟨rfl, hp, hk⟩
  replace HT := Lib.hid (HT.out.step hp hk HFs.out)
  clear hp hk c0 c1 c2 c3 c4
  go_wp2_with fail
  by_cases he : e = 0
  · subst he
    refine (got_yes _ _).mono ?_
    rintro e' W3 ⟨rfl, rfl⟩
    go_wp2_with fail
    refine (tk_mix g2 HT.out HFi.out).mono ?_
    rintro e' W2 (⟨xx, M, hm, rfl, hT⟩ | ⟨c, M, hm, hc, rfl, hT⟩)
    · have HM := Lib.hid hm
      replace HT := Lib.hid hT
      clear hm hT
      go_wp2_with fail
      go_end0
      exact .inl ⟨_, _, (G.to_ok (shareG_ok HF.out)).trans HM.out, rfl, HT.out⟩
    · unfold Fell
      go_wp2_with fail
      refine ⟨rfl, .inr ⟨_, _, (G.to_ok (shareG_ok HF.out)).trans hm, hc, rfl, hT⟩⟩
  · have HE := Lib.hid he
    clear he
    refine (got_no _ _ HE.out _).mono ?_
    rintro e' W3 ⟨rfl, rfl⟩
    unfold Fell
    go_wp2_with fail
    exact ⟨rfl, .inr ⟨_, _, G.to_bad (shareG_no HF.out HE.out), HE.out, rfl, HT.out.fall⟩⟩
set_option maxHeartbeats 1000000 in
theorem tk_wrap (g2 : Good base Q2) (h : Tk base g most Q2 L L2 bs B T y rest w0 w) {p d : Int} (hd : I64 d) :
    Calls Tryz.prog 120 #[.pointer (some ⟨B, 0, none⟩), .int .i64 p, .int .i64 d] w (Gp (boxG y p d most L) (fun r => .int .i64 r.2) (fun L' x w' => Tk base g most Q2 L' L2 bs B T x.1 rest w0 w') (fun L' w' => Cs base (PSq base g most) Q2 L' L2 bs w0 w')) := by
  have HFA := Lib.hid h.facts
  have HSO := Lib.hid h.cs.sound
  have HD := Lib.hid hd
  have HT := Lib.hid h
  clear h hd
  go_enter Tryz.func120, Tryz.ntmps120
  obtain ⟨a, b, e, L1, hf⟩ : ∃ a b e L1, wrapF L most p d = (a, b, e, L1) := ⟨_, _, _, _, rfl⟩
  have HF := Lib.hid hf
  have HFs := Lib.hid (wrap_sd HT.out.cs.sound hf)
  have HFi := Lib.hid (wrap_i64 HT.out.facts.2.1 HT.out.facts.2.2 HT.out.facts.1 hf)
  clear hf
  have c0 := HT.out.c0
  have c1 := HT.out.c1
  have c2 := HT.out.c2
  have c3 := HT.out.c3
  have c4 := HT.out.c4
  go_wp2_with fail
  refine (HT.out.cs.pair.wrapP g2 HD.out HF.out).mono ?_
  rintro e' W1 ⟨rfl, hp, hk⟩
  replace HT := Lib.hid (HT.out.step hp hk HFs.out)
  clear hp hk c0 c1 c2 c3 c4
  go_wp2_with fail
  by_cases he : e = 0
  · subst he
    refine (must_yes _).mono ?_
    rintro e' W3 ⟨rfl, rfl⟩
    go_wp2_with fail
    refine (tk_hash g2 HT.out HFi.out.1).mono ?_
    rintro e' W2 (⟨xx, M, hm, rfl, hT⟩ | ⟨c, M, hm, hc, rfl, hT⟩)
    · have HM := Lib.hid hm
      replace HT := Lib.hid hT
      clear hm hT
      go_wp2_with fail
      have HM1 := HM
      refine (tk_mix g2 HT.out HFi.out.2).mono ?_
      rintro e' W2 (⟨xx, M, hm, rfl, hT⟩ | ⟨c, M, hm, hc, rfl, hT⟩)
      · have HM := Lib.hid hm
        replace HT := Lib.hid hT
        clear hm hT
        go_wp2_with fail
        go_ret
        exact .inl ⟨_, _, (G.to_ok (wrapG_ok HF.out)).trans ((G.to_ok HM1.out).trans (G.to_ok HM.out)), rfl, HT.out⟩
      · unfold Fell
        go_wp2_with fail
        refine ⟨rfl, .inr ⟨_, _, (G.to_ok (wrapG_ok HF.out)).trans ((G.to_ok HM1.out).trans (G.to_bad hm)), hc, rfl, hT⟩⟩
    · unfold Fell
      go_wp2_with fail
      refine ⟨rfl, .inr ⟨_, _, (G.to_ok (wrapG_ok HF.out)).trans (G.to_bad hm), hc, rfl, hT⟩⟩
  · have HE := Lib.hid he
    clear he
    refine (must_no _ HE.out _).mono ?_
    rintro e' W3 ⟨rfl, rfl⟩
    unfold Fell
    go_wp2_with fail
    exact ⟨rfl, .inr ⟨_, _, G.to_bad (wrapG_no HF.out HE.out), HE.out, rfl, HT.out.fall⟩⟩
set_option maxHeartbeats 1000000 in
theorem tk_unwrap (g2 : Good base Q2) (h : Tk base g most Q2 L L2 bs B T y rest w0 w) {x p : Int} (hx : I64 x) (hp : I64 p) :
    Calls Tryz.prog 137 #[.pointer (some ⟨B, 0, none⟩), .int .i64 x, .int .i64 p] w (Gp (unboxG y x p most L) (fun _ => .tuple #[]) (fun L' x w' => Tk base g most Q2 L' L2 bs B T x rest w0 w') (fun L' w' => Cs base (PSq base g most) Q2 L' L2 bs w0 w')) := by
  have HFA := Lib.hid h.facts
  have HSO := Lib.hid h.cs.sound
  have HX := Lib.hid hx
  have HP := Lib.hid hp
  have HT := Lib.hid h
  clear h hx hp
  go_enter Tryz.func137, Tryz.ntmps137
  go_wp2_with fail
  refine (tk_hash g2 HT.out HP.out).mono ?_
  rintro e' W2 (⟨xx, M, hm, rfl, hT⟩ | ⟨c, M, hm, hc, rfl, hT⟩)
  · have HM := Lib.hid hm
    replace HT := Lib.hid hT
    clear hm hT
    have HM1 := HM
    obtain ⟨a, e, L1, hf⟩ : ∃ a e L1, kopenF M most x p = (a, e, L1) := ⟨_, _, _, rfl⟩
    have HF := Lib.hid hf
    have HFs := Lib.hid (kopen_sd HT.out.cs.sound hf)
    have HFi := Lib.hid (kopen_i64 HT.out.facts.2.1 HT.out.facts.2.2 hf)
    clear hf
    have c0 := HT.out.c0
    have c1 := HT.out.c1
    have c2 := HT.out.c2
    have c3 := HT.out.c3
    have c4 := HT.out.c4
    go_wp2_with fail
    refine (HT.out.cs.pair.openP g2 HX.out HF.out).mono ?_
    rintro e' W1 ⟨rfl, hp, hk⟩
    replace HT := Lib.hid (HT.out.step hp hk HFs.out)
    clear hp hk c0 c1 c2 c3 c4
    go_wp2_with fail
    by_cases he : e = 0
    · subst he
      refine (got_yes _ _).mono ?_
      rintro e' W3 ⟨rfl, rfl⟩
      go_wp2_with fail
      refine (tk_mix g2 HT.out HFi.out).mono ?_
      rintro e' W2 (⟨xx, M, hm, rfl, hT⟩ | ⟨c, M, hm, hc, rfl, hT⟩)
      · have HM := Lib.hid hm
        replace HT := Lib.hid hT
        clear hm hT
        go_wp2_with fail
        go_end0
        exact .inl ⟨_, _, (G.to_ok HM1.out).trans ((G.to_ok (unwrapG_ok HF.out)).trans HM.out), rfl, HT.out⟩
      · unfold Fell
        go_wp2_with fail
        refine ⟨rfl, .inr ⟨_, _, (G.to_ok HM1.out).trans ((G.to_ok (unwrapG_ok HF.out)).trans hm), hc, rfl, hT⟩⟩
    · have HE := Lib.hid he
      clear he
      refine (got_no _ _ HE.out _).mono ?_
      rintro e' W3 ⟨rfl, rfl⟩
      unfold Fell
      go_wp2_with fail
      exact ⟨rfl, .inr ⟨_, _, (G.to_ok HM1.out).trans (G.to_bad (unwrapG_no HF.out HE.out)), HE.out, rfl, HT.out.fall⟩⟩
  · unfold Fell
    go_wp2_with fail
    refine ⟨rfl, .inr ⟨_, _, G.to_bad hm, hc, rfl, hT⟩⟩
end
end Go.Proofs.YtgeonppckeiceaaGreatDoor
namespace Go.Proofs.YtgeonppckeiceaaGreatDoor
open Go.RowKit
set_option linter.unusedVariables false
set_option linter.unusedSimpArgs false
set_option maxRecDepth 20000
/-- The text that is sealed. -/
def textG (y : Sy) (c : Int) : G (Sy × ByteArray) := (unsealG y c).to fun r => fun _ L => (if (getT L r.2).1.K = 1 then .ok (r.1, (getT L r.2).1.S) else .error 3, L)
theorem text_small {L : List Tm} (h : Sound L) (x : Int) : (getT L x).1.S.size ≤ 1000 := by
  cases hb : (getT L x).2 with
  | true =>
    have hx : getT L x = ((getT L x).1, true) := by rw [← hb]
    have := h.get hx
    rw [may_iff] at this
    exact this.2.2.2.2.1
  | false =>
    have hx : getT L x = ((getT L x).1, false) := by rw [← hb]
    rw [getT_no hx]
    decide
theorem row_set6 {w : World} {b : Nat} {t : TypeId} {a0 a1 a2 a3 a4 a5 : Value} (v0 v1 v2 v3 v4 v5 : Value) (h : w.heap[b]? = some (.cells #[a0, a1, a2, a3, a4, a5] t (0, 0))) :
    ((((((w.setCell ⟨b, 0, none⟩ v0).setCell ⟨b, 1, none⟩ v1).setCell ⟨b, 2, none⟩ v2).setCell ⟨b, 3, none⟩ v3).setCell ⟨b, 4, none⟩ v4).setCell ⟨b, 5, none⟩ v5).heap[b]? = some (.cells #[v0, v1, v2, v3, v4, v5] t (0, 0)) := by
  rw [row_set 5 _ (row_set 4 _ (row_set 3 _ (row_set 2 _ (row_set 1 _ (row_set 0 _ h)))))]
  simp
theorem chg6 (w : World) (b : Nat) (v0 v1 v2 v3 v4 v5 : Value) : Chg (· = b) w ((((((w.setCell ⟨b, 0, none⟩ v0).setCell ⟨b, 1, none⟩ v1).setCell ⟨b, 2, none⟩ v2).setCell ⟨b, 3, none⟩ v3).setCell ⟨b, 4, none⟩ v4).setCell ⟨b, 5, none⟩ v5) :=
  ((((((chg_one _ _ _ _).trans (chg_one _ _ _ _)).trans (chg_one _ _ _ _)).trans (chg_one _ _ _ _)).trans (chg_one _ _ _ _)).trans (chg_one _ _ _ _))
section
variable {base g B : Nat} {most : Int} {Q2 : (Nat → Prop) → List Tm → World → Prop} {L L' L2 : List Tm} {bs : List (Nat × Obj)} {T : TypeId} {y y' : Sy} {rest : List Value} {w0 w w' : World}
set_option maxHeartbeats 2000000 in
theorem tk_opentext (g2 : Good base Q2) (h : Tk base g most Q2 L L2 bs B T y rest w0 w) {x : Int} (hx : I64 x) :
    Calls Tryz.prog 141 #[.pointer (some ⟨B, 0, none⟩), .int .i64 x] w (Gp (textG y x most L) (fun r => .string r.2) (fun L' x w' => Tk base g most Q2 L' L2 bs B T x.1 rest w0 w' ∧ x.2.size ≤ 1000) (fun L' w' => Cs base (PSq base g most) Q2 L' L2 bs w0 w')) := by
  have HFA := Lib.hid h.facts
  have HSO := Lib.hid h.cs.sound
  have HX := Lib.hid hx
  have HT := Lib.hid h
  clear h hx
  go_enter Tryz.func141, Tryz.ntmps141
  replace HT := Lib.hid (HT.out.drew g2)
  go_wp2_with fail
  refine wp_region_held_drew (S := (fun W => W.cell? ⟨B, 0, none⟩ = some (.pointer (some ⟨g, 0, none⟩)))) (by kernel_rfl) (HT.out.c0) (fun hHeld => ?_)
  refine tk1 0 (oi := ?o225) (v := ?v225) ?i225 ?w225 ?y225 ?r225
  case' i225 => simp only [g1, g2, g3]
  case i225 => rfl
  case w225 => kernel_rfl
  case y225 => (intro W hSw; go_simp) <;> with_reducible rfl
  try simp only [Act.put, p1, p2, p3]
  refine tk1 1 (oi := ?o226) (v := ?v226) ?i226 ?w226 ?y226 ?r226
  case' i226 => simp only [g1, g2, g3]
  case i226 => rfl
  case w226 => kernel_rfl
  case y226 => (intro W hSw; go_simp) <;> with_reducible rfl
  try simp only [Act.put, p1, p2, p3]
  refine tk1 2 (oi := ?o227) (v := ?v227) ?i227 ?w227 ?y227 ?r227
  case' i227 => simp only [g1, g2, g3]
  case i227 => rfl
  case w227 => kernel_rfl
  case y227 => (intro W hSw; go_simp) <;> with_reducible rfl
  try simp only [Act.put, p1, p2, p3]
  refine tk1 3 (oi := ?o228) (v := ?v228) ?i228 ?w228 ?y228 ?r228
  case' i228 => simp only [g1, g2, g3]
  case i228 => rfl
  case w228 => kernel_rfl
  case y228 => (intro W hSw; have q := hSw; go_simp) <;> with_reducible rfl
  try simp only [Act.put, p1, p2, p3]
  refine tk1 4 (oi := ?o229) (v := ?v229) ?i229 ?w229 ?y229 ?r229
  case' i229 => simp only [g1, g2, g3]
  case i229 => rfl
  case w229 => kernel_rfl
  case y229 => (intro W hSw; go_simp) <;> with_reducible rfl
  try simp only [Act.put, p1, p2, p3]
  refine tk1 5 (oi := ?o230) (v := ?v230) ?i230 ?w230 ?y230 ?r230
  case' i230 => simp only [g1, g2, g3]
  case i230 => rfl
  case w230 => kernel_rfl
  case y230 => (intro W hSw; go_simp) <;> with_reducible rfl
  try simp only [Act.put, p1, p2, p3]
  refine wpAnyH_ready (rs := [6, 11]) (by kernel_rfl) (by simp) ?_
  refine (AllReadyH.cons (o := ?o231_0) ?i231_0 (fun K' hK => ?g231_0) (AllReadyH.cons (o := ?o231_1) ?i231_1 (fun K' hK => ?g231_1) AllReadyH.nil))
  case' i231_0 => simp only [g1, g2, g3]
  case i231_0 => rfl
  case' i231_1 => simp only [g1, g2, g3]
  case i231_1 => rfl
  case g231_0 =>
    go_simp
    go_at_call 138
    refine (tk_open g2 HT.out HX.out).mono ?_
    rintro e' W2 (⟨⟨z, c⟩, M, hm, rfl, hT⟩ | ⟨c, M, hm, hc, rfl, hT⟩)
    · have HM := Lib.hid hm
      replace HT := Lib.hid hT
      clear hm hT
      obtain ⟨t, ok, ht⟩ : ∃ t ok, getT M c = (t, ok) := ⟨_, _, rfl⟩
      have HG := Lib.hid ht
      have HTS := Lib.hid (text_small HT.out.cs.sound c)
      clear ht
      go_wp2_with fail
      refine hK.out _ _ (HT.out.c0) (fun hHeld => ?_)
      clear hK K'
      try simp only [Act.put, p1, p2, p3]
      refine wpAnyH_ready (rs := [7, 11]) (by kernel_rfl) (by simp) ?_
      refine (AllReadyH.cons (o := ?o232_0) ?i232_0 (fun K' hK => ?g232_0) (AllReadyH.cons (o := ?o232_1) ?i232_1 (fun K' hK => ?g232_1) AllReadyH.nil))
      case' i232_0 => simp only [g1, g2, g3]
      case i232_0 => rfl
      case' i232_1 => simp only [g1, g2, g3]
      case i232_1 => rfl
      case g232_0 =>
        go_simp
        go_at_call 102
        refine (HT.out.cs.pair.getP g2 c HG.out).mono ?_
        rintro e' W3 ⟨rfl, hp, hb⟩
        replace HT := Lib.hid (HT.out.below g2 hb)
        clear hp hb
        simp only [Tm.v]
        go_wp2_with fail
        refine hK.out _ _ (HT.out.c0) (fun hHeld => ?_)
        clear hK K'
        try simp only [Act.put, p1, p2, p3]
        refine tk1 8 (oi := ?o233) (v := ?v233) ?i233 ?w233 ?y233 ?r233
        case' i233 => simp only [g1, g2, g3]
        case i233 => rfl
        case w233 => kernel_rfl
        case y233 => (intro W hSw; go_simp) <;> with_reducible rfl
        try simp only [Act.put, p1, p2, p3]
        refine tk1 9 (oi := ?o234) (v := ?v234) ?i234 ?w234 ?y234 ?r234
        case' i234 => simp only [g1, g2, g3]
        case i234 => rfl
        case w234 => kernel_rfl
        case y234 => (intro W hSw; go_simp) <;> with_reducible rfl
        try simp only [Act.put, p1, p2, p3]
        refine tk1 10 (oi := ?o235) (v := ?v235) ?i235 ?w235 ?y235 ?r235
        case' i235 => simp only [g1, g2, g3]
        case i235 => rfl
        case w235 => kernel_rfl
        case y235 => (intro W hSw; go_simp) <;> with_reducible rfl
        try simp only [Act.put, p1, p2, p3]
        refine wpAnyH_ready (rs := [11]) (by kernel_rfl) (by simp) ?_
        refine (AllReadyH.cons (o := ?o236_0) ?i236_0 (fun K' hK => ?g236_0) AllReadyH.nil)
        case' i236_0 => simp only [g1, g2, g3]
        case i236_0 => rfl
        go_simp
        have HT0 := HT
        obtain ⟨hbx, hbn⟩ := HT.out.box g2 #[.int .i64 0, .string ⟨#[]⟩, .int .u64 0, .int .i64 0, .int .i64 0, .int .i64 0] 116 (b := W3.heap.size) (by first | rfl | simp)
        replace HT := Lib.hid hbx
        have HN := Lib.hid hbn
        clear hbx hbn
        refine hK.out _ _ (HT.out.c0) (fun hHeld => ?_)
        clear hK K'
        try simp only [Act.put, p1, p2, p3]
        refine wpAnyH_ready (rs := [12]) (by kernel_rfl) (by simp) ?_
        refine (AllReadyH.cons (o := ?o237_0) ?i237_0 (fun K' hK => ?g237_0) AllReadyH.nil)
        case' i237_0 => simp only [g1, g2, g3]
        case i237_0 => rfl
        go_simp
        obtain ⟨hbx, hbn⟩ := HT0.out.box g2 #[.int .i64 t.K, .string t.S, .int .u64 t.N, .int .i64 t.A, .int .i64 t.B, .int .i64 t.C] 116 (b := W3.heap.size) rfl
        replace HT := Lib.hid hbx.unbox0
        have HR := Lib.hid (hbx.cs.kept _ _ (List.mem_cons_of_mem _ List.mem_cons_self))
        clear hbx hbn HT0
        refine hK.out _ _ (HT.out.c0) (fun hHeld => ?_)
        clear hK K'
        try simp only [Act.put, p1, p2, p3]
        refine tk1 13 (oi := ?o238) (v := ?v238) ?i238 ?w238 ?y238 ?r238
        case' i238 => simp only [g1, g2, g3]
        case i238 => rfl
        case w238 => kernel_rfl
        case y238 => (intro W hSw; go_simp) <;> with_reducible rfl
        try simp only [Act.put, p1, p2, p3]
        refine wpAnyH_done (by kernel_rfl) ?_ _
        generalize hWx : World.alloc _ _ = Wx at HT HR ⊢
        clear hWx
        have r0 := cell_of_row Wx _ 0 _ _ _ HR.out
        have r1 := cell_of_row Wx _ 1 _ _ _ HR.out
        simp at r0 r1
        by_cases hK : t.K = 1
        · have hk : (t.K != 1) = false := by simp [hK]
          have HE : Hid (textG y x most L = (.ok (z, t.S), M)) := Lib.hid ((G.to_ok HM.out).trans (by simp [HG.out, hK]))
          have HS : Hid (t.S.size ≤ 1000) := Lib.hid (by have := HTS.out; rw [HG.out] at this; exact this)
          clear hK
          go_wp2_with fail
          go_ret
          exact .inl ⟨_, _, HE.out, rfl, HT.out, HS.out⟩
        · have hk : (t.K != 1) = true := by simp [hK]
          have HE : Hid (textG y x most L = (.error 3, M)) := Lib.hid ((G.to_ok HM.out).trans (by simp [HG.out, hK]))
          clear hK
          go_wp2_with fail
          exact ⟨rfl, .inr ⟨_, _, HE.out, by decide, rfl, HT.out.fall⟩⟩
      case g232_1 =>
        go_simp
        obtain ⟨hbx, hbn⟩ := HT.out.box g2 #[.int .i64 0, .string ⟨#[]⟩, .int .u64 0, .int .i64 0, .int .i64 0, .int .i64 0] 116 (b := W2.heap.size) (by first | rfl | simp)
        replace HT := Lib.hid hbx
        have HN := Lib.hid hbn
        clear hbx hbn
        refine hK.out _ _ (HT.out.c0) (fun hHeld => ?_)
        clear hK K'
        try simp only [Act.put, p1, p2, p3]
        refine wpAnyH_ready (rs := [7]) (by kernel_rfl) (by simp) ?_
        refine (AllReadyH.cons (o := ?o239_0) ?i239_0 (fun K' hK => ?g239_0) AllReadyH.nil)
        case' i239_0 => simp only [g1, g2, g3]
        case i239_0 => rfl
        go_simp
        go_at_call 102
        refine (HT.out.cs.pair.getP g2 c HG.out).mono ?_
        rintro e' W3 ⟨rfl, hp, hb⟩
        replace HT := Lib.hid (HT.out.below g2 hb)
        clear hp hb
        simp only [Tm.v]
        go_wp2_with fail
        refine hK.out _ _ (HT.out.c0) (fun hHeld => ?_)
        clear hK K'
        try simp only [Act.put, p1, p2, p3]
        refine tk1 8 (oi := ?o240) (v := ?v240) ?i240 ?w240 ?y240 ?r240
        case' i240 => simp only [g1, g2, g3]
        case i240 => rfl
        case w240 => kernel_rfl
        case y240 => (intro W hSw; go_simp) <;> with_reducible rfl
        try simp only [Act.put, p1, p2, p3]
        refine tk1 9 (oi := ?o241) (v := ?v241) ?i241 ?w241 ?y241 ?r241
        case' i241 => simp only [g1, g2, g3]
        case i241 => rfl
        case w241 => kernel_rfl
        case y241 => (intro W hSw; go_simp) <;> with_reducible rfl
        try simp only [Act.put, p1, p2, p3]
        refine tk1 10 (oi := ?o242) (v := ?v242) ?i242 ?w242 ?y242 ?r242
        case' i242 => simp only [g1, g2, g3]
        case i242 => rfl
        case w242 => kernel_rfl
        case y242 => (intro W hSw; go_simp) <;> with_reducible rfl
        try simp only [Act.put, p1, p2, p3]
        refine wpAnyH_ready (rs := [12]) (by kernel_rfl) (by simp) ?_
        refine (AllReadyH.cons (o := ?o243_0) ?i243_0 (fun K' hK => ?g243_0) AllReadyH.nil)
        case' i243_0 => simp only [g1, g2, g3]
        case i243_0 => rfl
        obtain ⟨b0, bf0⟩ := HT.out.boxc (List.mem_cons_self) 0 rfl
        obtain ⟨b1, bf1⟩ := HT.out.boxc (List.mem_cons_self) 1 rfl
        obtain ⟨b2, bf2⟩ := HT.out.boxc (List.mem_cons_self) 2 rfl
        obtain ⟨b3, bf3⟩ := HT.out.boxc (List.mem_cons_self) 3 rfl
        obtain ⟨b4, bf4⟩ := HT.out.boxc (List.mem_cons_self) 4 rfl
        obtain ⟨b5, bf5⟩ := HT.out.boxc (List.mem_cons_self) 5 rfl
        go_simp
        have hr0 := HT.out.cs.kept _ _ (List.mem_cons_of_mem _ List.mem_cons_self)
        have HR := Lib.hid (row_set6 (.int .i64 t.K) (.string t.S) (.int .u64 t.N) (.int .i64 t.A) (.int .i64 t.B) (.int .i64 t.C) hr0)
        replace HT := Lib.hid (HT.out.unbox g2 HN.out (chg6 _ _ (.int .i64 t.K) (.string t.S) (.int .u64 t.N) (.int .i64 t.A) (.int .i64 t.B) (.int .i64 t.C)))
        clear hr0 b0 b1 b2 b3 b4 b5 bf0 bf1 bf2 bf3 bf4 bf5
        refine hK.out _ _ (HT.out.c0) (fun hHeld => ?_)
        clear hK K'
        try simp only [Act.put, p1, p2, p3]
        refine tk1 13 (oi := ?o244) (v := ?v244) ?i244 ?w244 ?y244 ?r244
        case' i244 => simp only [g1, g2, g3]
        case i244 => rfl
        case w244 => kernel_rfl
        case y244 => (intro W hSw; go_simp) <;> with_reducible rfl
        try simp only [Act.put, p1, p2, p3]
        refine wpAnyH_done (by kernel_rfl) ?_ _
        generalize hWx : World.setCell _ _ _ = Wx at HT HR ⊢
        clear hWx
        have r0 := cell_of_row Wx _ 0 _ _ _ HR.out
        have r1 := cell_of_row Wx _ 1 _ _ _ HR.out
        simp at r0 r1
        by_cases hK : t.K = 1
        · have hk : (t.K != 1) = false := by simp [hK]
          have HE : Hid (textG y x most L = (.ok (z, t.S), M)) := Lib.hid ((G.to_ok HM.out).trans (by simp [HG.out, hK]))
          have HS : Hid (t.S.size ≤ 1000) := Lib.hid (by have := HTS.out; rw [HG.out] at this; exact this)
          clear hK
          go_wp2_with fail
          go_ret
          exact .inl ⟨_, _, HE.out, rfl, HT.out, HS.out⟩
        · have hk : (t.K != 1) = true := by simp [hK]
          have HE : Hid (textG y x most L = (.error 3, M)) := Lib.hid ((G.to_ok HM.out).trans (by simp [HG.out, hK]))
          clear hK
          go_wp2_with fail
          exact ⟨rfl, .inr ⟨_, _, HE.out, by decide, rfl, HT.out.fall⟩⟩
    · unfold Fell
      go_wp2_with fail
      refine ⟨rfl, .inr ⟨_, _, G.to_bad hm, hc, rfl, hT⟩⟩
  case g231_1 =>
    go_simp
    obtain ⟨hbx, hbn⟩ := HT.out.box g2 #[.int .i64 0, .string ⟨#[]⟩, .int .u64 0, .int .i64 0, .int .i64 0, .int .i64 0] 116 (b := w.heap.size) (by first | rfl | simp)
    replace HT := Lib.hid hbx
    have HN := Lib.hid hbn
    clear hbx hbn
    refine hK.out _ _ (HT.out.c0) (fun hHeld => ?_)
    clear hK K'
    try simp only [Act.put, p1, p2, p3]
    refine wpAnyH_ready (rs := [6]) (by kernel_rfl) (by simp) ?_
    refine (AllReadyH.cons (o := ?o245_0) ?i245_0 (fun K' hK => ?g245_0) AllReadyH.nil)
    case' i245_0 => simp only [g1, g2, g3]
    case i245_0 => rfl
    go_simp
    go_at_call 138
    refine (tk_open g2 HT.out HX.out).mono ?_
    rintro e' W2 (⟨⟨z, c⟩, M, hm, rfl, hT⟩ | ⟨c, M, hm, hc, rfl, hT⟩)
    · have HM := Lib.hid hm
      replace HT := Lib.hid hT
      clear hm hT
      obtain ⟨t, ok, ht⟩ : ∃ t ok, getT M c = (t, ok) := ⟨_, _, rfl⟩
      have HG := Lib.hid ht
      have HTS := Lib.hid (text_small HT.out.cs.sound c)
      clear ht
      go_wp2_with fail
      refine hK.out _ _ (HT.out.c0) (fun hHeld => ?_)
      clear hK K'
      try simp only [Act.put, p1, p2, p3]
      refine wpAnyH_ready (rs := [7]) (by kernel_rfl) (by simp) ?_
      refine (AllReadyH.cons (o := ?o246_0) ?i246_0 (fun K' hK => ?g246_0) AllReadyH.nil)
      case' i246_0 => simp only [g1, g2, g3]
      case i246_0 => rfl
      go_simp
      go_at_call 102
      refine (HT.out.cs.pair.getP g2 c HG.out).mono ?_
      rintro e' W3 ⟨rfl, hp, hb⟩
      replace HT := Lib.hid (HT.out.below g2 hb)
      clear hp hb
      simp only [Tm.v]
      go_wp2_with fail
      refine hK.out _ _ (HT.out.c0) (fun hHeld => ?_)
      clear hK K'
      try simp only [Act.put, p1, p2, p3]
      refine tk1 8 (oi := ?o247) (v := ?v247) ?i247 ?w247 ?y247 ?r247
      case' i247 => simp only [g1, g2, g3]
      case i247 => rfl
      case w247 => kernel_rfl
      case y247 => (intro W hSw; go_simp) <;> with_reducible rfl
      try simp only [Act.put, p1, p2, p3]
      refine tk1 9 (oi := ?o248) (v := ?v248) ?i248 ?w248 ?y248 ?r248
      case' i248 => simp only [g1, g2, g3]
      case i248 => rfl
      case w248 => kernel_rfl
      case y248 => (intro W hSw; go_simp) <;> with_reducible rfl
      try simp only [Act.put, p1, p2, p3]
      refine tk1 10 (oi := ?o249) (v := ?v249) ?i249 ?w249 ?y249 ?r249
      case' i249 => simp only [g1, g2, g3]
      case i249 => rfl
      case w249 => kernel_rfl
      case y249 => (intro W hSw; go_simp) <;> with_reducible rfl
      try simp only [Act.put, p1, p2, p3]
      refine wpAnyH_ready (rs := [12]) (by kernel_rfl) (by simp) ?_
      refine (AllReadyH.cons (o := ?o250_0) ?i250_0 (fun K' hK => ?g250_0) AllReadyH.nil)
      case' i250_0 => simp only [g1, g2, g3]
      case i250_0 => rfl
      obtain ⟨b0, bf0⟩ := HT.out.boxc (List.mem_cons_self) 0 rfl
      obtain ⟨b1, bf1⟩ := HT.out.boxc (List.mem_cons_self) 1 rfl
      obtain ⟨b2, bf2⟩ := HT.out.boxc (List.mem_cons_self) 2 rfl
      obtain ⟨b3, bf3⟩ := HT.out.boxc (List.mem_cons_self) 3 rfl
      obtain ⟨b4, bf4⟩ := HT.out.boxc (List.mem_cons_self) 4 rfl
      obtain ⟨b5, bf5⟩ := HT.out.boxc (List.mem_cons_self) 5 rfl
      go_simp
      have hr0 := HT.out.cs.kept _ _ (List.mem_cons_of_mem _ List.mem_cons_self)
      have HR := Lib.hid (row_set6 (.int .i64 t.K) (.string t.S) (.int .u64 t.N) (.int .i64 t.A) (.int .i64 t.B) (.int .i64 t.C) hr0)
      replace HT := Lib.hid (HT.out.unbox g2 HN.out (chg6 _ _ (.int .i64 t.K) (.string t.S) (.int .u64 t.N) (.int .i64 t.A) (.int .i64 t.B) (.int .i64 t.C)))
      clear hr0 b0 b1 b2 b3 b4 b5 bf0 bf1 bf2 bf3 bf4 bf5
      refine hK.out _ _ (HT.out.c0) (fun hHeld => ?_)
      clear hK K'
      try simp only [Act.put, p1, p2, p3]
      refine tk1 13 (oi := ?o251) (v := ?v251) ?i251 ?w251 ?y251 ?r251
      case' i251 => simp only [g1, g2, g3]
      case i251 => rfl
      case w251 => kernel_rfl
      case y251 => (intro W hSw; go_simp) <;> with_reducible rfl
      try simp only [Act.put, p1, p2, p3]
      refine wpAnyH_done (by kernel_rfl) ?_ _
      generalize hWx : World.setCell _ _ _ = Wx at HT HR ⊢
      clear hWx
      have r0 := cell_of_row Wx _ 0 _ _ _ HR.out
      have r1 := cell_of_row Wx _ 1 _ _ _ HR.out
      simp at r0 r1
      by_cases hK : t.K = 1
      · have hk : (t.K != 1) = false := by simp [hK]
        have HE : Hid (textG y x most L = (.ok (z, t.S), M)) := Lib.hid ((G.to_ok HM.out).trans (by simp [HG.out, hK]))
        have HS : Hid (t.S.size ≤ 1000) := Lib.hid (by have := HTS.out; rw [HG.out] at this; exact this)
        clear hK
        go_wp2_with fail
        go_ret
        exact .inl ⟨_, _, HE.out, rfl, HT.out, HS.out⟩
      · have hk : (t.K != 1) = true := by simp [hK]
        have HE : Hid (textG y x most L = (.error 3, M)) := Lib.hid ((G.to_ok HM.out).trans (by simp [HG.out, hK]))
        clear hK
        go_wp2_with fail
        exact ⟨rfl, .inr ⟨_, _, HE.out, by decide, rfl, HT.out.fall⟩⟩
    · unfold Fell
      go_wp2_with fail
      refine ⟨rfl, .inr ⟨_, _, G.to_bad hm, hc, rfl, hT.less (fun x q => List.mem_cons_of_mem _ q)⟩⟩
end
end Go.Proofs.YtgeonppckeiceaaGreatDoor
