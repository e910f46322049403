/- What a talk says, wraps and unwraps (by tools/stage17/talk.py). -/
/- What a text is that a talk opens (by tools/stage17/talk.py). -/
/- The library's contracts at this program: a small number's digits; whether a text holds a byte. -/
/- What a talk says first; a text that it opens (by tools/stage17/talk.py). -/
/- Steps in a list, method values of one receiver; the first error ends them by a panic that a deferred closure recovers. -/
import Derived.Test.YtgeonppckeiceaaGreatDoorGq18
import Derived.Deep.RegionHeld3
import Derived.Test.YtgeonppckeiceaaGreatDoorGq01
import Derived.Shelf.Strconv.Itoa3
import Derived.Shelf.LaysM
import Derived.Shelf.Strings.Search1
import Derived.Shelf.Strings.Search2
import Derived.Shelf.Strings.Search3
import Derived.Test.YtgeonppckeiceaaGreatDoorProg
import Derived.Test.YtgeonppckeiceaaGreatDoorGq17
import Derived.Defers
import Derived.Recover
import Derived.Laws.Pointers
import Derived.BigQuiet
namespace Go.Proofs.YtgeonppckeiceaaGreatDoor
open Go.RowKit
set_option linter.unusedVariables false
set_option linter.unusedSimpArgs false
set_option maxRecDepth 20000
section
variable {base g B : Nat} {most : Int} {Q2 : (Nat → Prop) → List Tm → World → Prop} {L L' L2 : List Tm} {bs : List (Nat × Obj)} {T : TypeId} {y y' : Sy} {rest : List Value} {w0 w w' : World}
set_option maxHeartbeats 1000000 in
theorem tk_say (g2 : Good base Q2) (h : Tk base g most Q2 L L2 bs B T y rest w0 w) {x : Int} (hx : I64 x) :
  Calls Tryz.prog 117 #[.pointer (some ⟨B, 0, none⟩), .int .i64 x] w (Gp (sayG y x most L) (fun _ => .int .i64 x) (fun L' x w' => Tk base g most Q2 L' L2 bs B T x rest w0 w') (fun L' w' => Cs base (PSq base g most) Q2 L' L2 bs w0 w')) := by
 have HFA := Lib.hid h.facts
 have HSO := Lib.hid h.cs.sound
 have HX := Lib.hid hx
 have HT := Lib.hid h
 clear h hx
 go_enter Tryz.func117, Tryz.ntmps117
 go_wp2_with fail
 refine (tk_hash g2 HT.out HX.out).mono ?_
 rintro e' W2 (⟨xx, M, hm, rfl, hT⟩ | ⟨c, M, hm, hc, rfl, hT⟩)
 ·have HM := Lib.hid hm
  replace HT := Lib.hid hT
  clear hm hT
  go_wp2_with fail
  go_ret
  exact .inl ⟨_, _, HM.out, rfl, HT.out⟩
 ·unfold Fell
  go_wp2_with fail
  refine ⟨rfl, .inr ⟨_, _, hm, hc, rfl, hT⟩⟩
set_option maxHeartbeats 1000000 in
theorem tk_share (g2 : Good base Q2) (h : Tk base g most Q2 L L2 bs B T y rest w0 w) {x p : Int} (hx : I64 x) :
  Calls Tryz.prog 119 #[.pointer (some ⟨B, 0, none⟩), .int .i64 x, .int .i64 p] w (Gp (agreeG y x p most L) (fun _ => .tuple #[]) (fun L' x w' => Tk base g most Q2 L' L2 bs B T x rest w0 w') (fun L' w' => Cs base (PSq base g most) Q2 L' L2 bs w0 w')) := by
 have HFA := Lib.hid h.facts
 have HSO := Lib.hid h.cs.sound
 have HX := Lib.hid hx
 have HT := Lib.hid h
 clear h hx
 go_enter Tryz.func119, Tryz.ntmps119
 obtain ⟨a, e, L1, hf⟩ : ∃ a e L1, agreeF L most x p = (a, e, L1) := ⟨_, _, _, rfl⟩
 have HF := Lib.hid hf
 have HFs := Lib.hid (agree_sd HT.out.cs.sound hf)
 have HFi := Lib.hid (agree_i64 HT.out.facts.2.1 HT.out.facts.2.2 hf)
 clear hf
 have c0 := HT.out.c0
 have c1 := HT.out.c1
 have c2 := HT.out.c2
 have c3 := HT.out.c3
 have c4 := HT.out.c4
 go_wp2_with fail
 refine (HT.out.cs.pair.agreeP g2 HX.out HF.out).mono ?_
 rintro e' W1 ⟨rfl, hp, hk⟩
 replace HT := Lib.hid (HT.out.step hp hk HFs.out)
 clear hp hk c0 c1 c2 c3 c4
 go_wp2_with fail
 by_cases he : e = 0
 ·subst he
  refine (got_yes _ _).mono ?_
  rintro e' W3 ⟨rfl, rfl⟩
  go_wp2_with fail
  refine (tk_mix g2 HT.out HFi.out).mono ?_
  rintro e' W2 (⟨xx, M, hm, rfl, hT⟩ | ⟨c, M, hm, hc, rfl, hT⟩)
  ·have HM := Lib.hid hm
   replace HT := Lib.hid hT
   clear hm hT
   go_wp2_with fail
   go_end0
   exact .inl ⟨_, _, (G.to_ok (shareG_ok HF.out)).trans HM.out, rfl, HT.out⟩
  ·unfold Fell
   go_wp2_with fail
   refine ⟨rfl, .inr ⟨_, _, (G.to_ok (shareG_ok HF.out)).trans hm, hc, rfl, hT⟩⟩
 ·have HE := Lib.hid he
  clear he
  refine (got_no _ _ HE.out _).mono ?_
  rintro e' W3 ⟨rfl, rfl⟩
  unfold Fell
  go_wp2_with fail
  exact ⟨rfl, .inr ⟨_, _, G.to_bad (shareG_no HF.out HE.out), HE.out, rfl, HT.out.fall⟩⟩
set_option maxHeartbeats 1000000 in
theorem tk_wrap (g2 : Good base Q2) (h : Tk base g most Q2 L L2 bs B T y rest w0 w) {p d : Int} (hd : I64 d) :
  Calls Tryz.prog 120 #[.pointer (some ⟨B, 0, none⟩), .int .i64 p, .int .i64 d] w (Gp (boxG y p d most L) (fun r => .int .i64 r.2) (fun L' x w' => Tk base g most Q2 L' L2 bs B T x.1 rest w0 w') (fun L' w' => Cs base (PSq base g most) Q2 L' L2 bs w0 w')) := by
 have HFA := Lib.hid h.facts
 have HSO := Lib.hid h.cs.sound
 have HD := Lib.hid hd
 have HT := Lib.hid h
 clear h hd
 go_enter Tryz.func120, Tryz.ntmps120
 obtain ⟨a, b, e, L1, hf⟩ : ∃ a b e L1, wrapF L most p d = (a, b, e, L1) := ⟨_, _, _, _, rfl⟩
 have HF := Lib.hid hf
 have HFs := Lib.hid (wrap_sd HT.out.cs.sound hf)
 have HFi := Lib.hid (wrap_i64 HT.out.facts.2.1 HT.out.facts.2.2 HT.out.facts.1 hf)
 clear hf
 have c0 := HT.out.c0
 have c1 := HT.out.c1
 have c2 := HT.out.c2
 have c3 := HT.out.c3
 have c4 := HT.out.c4
 go_wp2_with fail
 refine (HT.out.cs.pair.wrapP g2 HD.out HF.out).mono ?_
 rintro e' W1 ⟨rfl, hp, hk⟩
 replace HT := Lib.hid (HT.out.step hp hk HFs.out)
 clear hp hk c0 c1 c2 c3 c4
 go_wp2_with fail
 by_cases he : e = 0
 ·subst he
  refine (must_yes _).mono ?_
  rintro e' W3 ⟨rfl, rfl⟩
  go_wp2_with fail
  refine (tk_hash g2 HT.out HFi.out.1).mono ?_
  rintro e' W2 (⟨xx, M, hm, rfl, hT⟩ | ⟨c, M, hm, hc, rfl, hT⟩)
  ·have HM := Lib.hid hm
   replace HT := Lib.hid hT
   clear hm hT
   go_wp2_with fail
   have HM1 := HM
   refine (tk_mix g2 HT.out HFi.out.2).mono ?_
   rintro e' W2 (⟨xx, M, hm, rfl, hT⟩ | ⟨c, M, hm, hc, rfl, hT⟩)
   ·have HM := Lib.hid hm
    replace HT := Lib.hid hT
    clear hm hT
    go_wp2_with fail
    go_ret
    exact .inl ⟨_, _, (G.to_ok (wrapG_ok HF.out)).trans ((G.to_ok HM1.out).trans (G.to_ok HM.out)), rfl, HT.out⟩
   ·unfold Fell
    go_wp2_with fail
    refine ⟨rfl, .inr ⟨_, _, (G.to_ok (wrapG_ok HF.out)).trans ((G.to_ok HM1.out).trans (G.to_bad hm)), hc, rfl, hT⟩⟩
  ·unfold Fell
   go_wp2_with fail
   refine ⟨rfl, .inr ⟨_, _, (G.to_ok (wrapG_ok HF.out)).trans (G.to_bad hm), hc, rfl, hT⟩⟩
 ·have HE := Lib.hid he
  clear he
  refine (must_no _ HE.out _).mono ?_
  rintro e' W3 ⟨rfl, rfl⟩
  unfold Fell
  go_wp2_with fail
  exact ⟨rfl, .inr ⟨_, _, G.to_bad (wrapG_no HF.out HE.out), HE.out, rfl, HT.out.fall⟩⟩
set_option maxHeartbeats 1000000 in
theorem tk_unwrap (g2 : Good base Q2) (h : Tk base g most Q2 L L2 bs B T y rest w0 w) {x p : Int} (hx : I64 x) (hp : I64 p) :
  Calls Tryz.prog 137 #[.pointer (some ⟨B, 0, none⟩), .int .i64 x, .int .i64 p] w (Gp (unboxG y x p most L) (fun _ => .tuple #[]) (fun L' x w' => Tk base g most Q2 L' L2 bs B T x rest w0 w') (fun L' w' => Cs base (PSq base g most) Q2 L' L2 bs w0 w')) := by
 have HFA := Lib.hid h.facts
 have HSO := Lib.hid h.cs.sound
 have HX := Lib.hid hx
 have HP := Lib.hid hp
 have HT := Lib.hid h
 clear h hx hp
 go_enter Tryz.func137, Tryz.ntmps137
 go_wp2_with fail
 refine (tk_hash g2 HT.out HP.out).mono ?_
 rintro e' W2 (⟨xx, M, hm, rfl, hT⟩ | ⟨c, M, hm, hc, rfl, hT⟩)
 ·have HM := Lib.hid hm
  replace HT := Lib.hid hT
  clear hm hT
  have HM1 := HM
  obtain ⟨a, e, L1, hf⟩ : ∃ a e L1, kopenF M most x p = (a, e, L1) := ⟨_, _, _, rfl⟩
  have HF := Lib.hid hf
  have HFs := Lib.hid (kopen_sd HT.out.cs.sound hf)
  have HFi := Lib.hid (kopen_i64 HT.out.facts.2.1 HT.out.facts.2.2 hf)
  clear hf
  have c0 := HT.out.c0
  have c1 := HT.out.c1
  have c2 := HT.out.c2
  have c3 := HT.out.c3
  have c4 := HT.out.c4
  go_wp2_with fail
  refine (HT.out.cs.pair.openP g2 HX.out HF.out).mono ?_
  rintro e' W1 ⟨rfl, hp, hk⟩
  replace HT := Lib.hid (HT.out.step hp hk HFs.out)
  clear hp hk c0 c1 c2 c3 c4
  go_wp2_with fail
  by_cases he : e = 0
  ·subst he
   refine (got_yes _ _).mono ?_
   rintro e' W3 ⟨rfl, rfl⟩
   go_wp2_with fail
   refine (tk_mix g2 HT.out HFi.out).mono ?_
   rintro e' W2 (⟨xx, M, hm, rfl, hT⟩ | ⟨c, M, hm, hc, rfl, hT⟩)
   ·have HM := Lib.hid hm
    replace HT := Lib.hid hT
    clear hm hT
    go_wp2_with fail
    go_end0
    exact .inl ⟨_, _, (G.to_ok HM1.out).trans ((G.to_ok (unwrapG_ok HF.out)).trans HM.out), rfl, HT.out⟩
   ·unfold Fell
    go_wp2_with fail
    refine ⟨rfl, .inr ⟨_, _, (G.to_ok HM1.out).trans ((G.to_ok (unwrapG_ok HF.out)).trans hm), hc, rfl, hT⟩⟩
  ·have HE := Lib.hid he
   clear he
   refine (got_no _ _ HE.out _).mono ?_
   rintro e' W3 ⟨rfl, rfl⟩
   unfold Fell
   go_wp2_with fail
   exact ⟨rfl, .inr ⟨_, _, (G.to_ok HM1.out).trans (G.to_bad (unwrapG_no HF.out HE.out)), HE.out, rfl, HT.out.fall⟩⟩
 ·unfold Fell
  go_wp2_with fail
  refine ⟨rfl, .inr ⟨_, _, G.to_bad hm, hc, rfl, hT⟩⟩
end
def textG (y : Sy) (c : Int) : G (Sy × ByteArray) := (unsealG y c).to fun r => fun _ L => (if (getT L r.2).1.K = 1 then .ok (r.1, (getT L r.2).1.S) else .error 3, L)
theorem text_small {L : List Tm} (h : Sound L) (x : Int) : (getT L x).1.S.size ≤ 1000 := by
 cases hb : (getT L x).2 with
 | true =>
  have hx : getT L x = ((getT L x).1, true) := by rw [← hb]
  have := h.get hx
  rw [may_iff] at this
  exact this.2.2.2.2.1
 | false =>
  have hx : getT L x = ((getT L x).1, false) := by rw [← hb]
  rw [getT_no hx]
  decide
theorem row_set6 {w : World} {b : Nat} {t : TypeId} {a0 a1 a2 a3 a4 a5 : Value} (v0 v1 v2 v3 v4 v5 : Value) (h : w.heap[b]? = some (.cells #[a0, a1, a2, a3, a4, a5] t (0, 0))) :
  ((((((w.setCell ⟨b, 0, none⟩ v0).setCell ⟨b, 1, none⟩ v1).setCell ⟨b, 2, none⟩ v2).setCell ⟨b, 3, none⟩ v3).setCell ⟨b, 4, none⟩ v4).setCell ⟨b, 5, none⟩ v5).heap[b]? = some (.cells #[v0, v1, v2, v3, v4, v5] t (0, 0)) := by
 rw [row_set 5 _ (row_set 4 _ (row_set 3 _ (row_set 2 _ (row_set 1 _ (row_set 0 _ h)))))]
 simp
theorem chg6 (w : World) (b : Nat) (v0 v1 v2 v3 v4 v5 : Value) : Chg (· = b) w ((((((w.setCell ⟨b, 0, none⟩ v0).setCell ⟨b, 1, none⟩ v1).setCell ⟨b, 2, none⟩ v2).setCell ⟨b, 3, none⟩ v3).setCell ⟨b, 4, none⟩ v4).setCell ⟨b, 5, none⟩ v5) :=
 ((((((chg_one _ _ _ _).trans (chg_one _ _ _ _)).trans (chg_one _ _ _ _)).trans (chg_one _ _ _ _)).trans (chg_one _ _ _ _)).trans (chg_one _ _ _ _))
section
variable {base g B : Nat} {most : Int} {Q2 : (Nat → Prop) → List Tm → World → Prop} {L L' L2 : List Tm} {bs : List (Nat × Obj)} {T : TypeId} {y y' : Sy} {rest : List Value} {w0 w w' : World}
set_option maxHeartbeats 2000000 in
theorem tk_opentext (g2 : Good base Q2) (h : Tk base g most Q2 L L2 bs B T y rest w0 w) {x : Int} (hx : I64 x) :
  Calls Tryz.prog 141 #[.pointer (some ⟨B, 0, none⟩), .int .i64 x] w (Gp (textG y x most L) (fun r => .string r.2) (fun L' x w' => Tk base g most Q2 L' L2 bs B T x.1 rest w0 w' ∧ x.2.size ≤ 1000) (fun L' w' => Cs base (PSq base g most) Q2 L' L2 bs w0 w')) := by
 have HFA := Lib.hid h.facts
 have HSO := Lib.hid h.cs.sound
 have HX := Lib.hid hx
 have HT := Lib.hid h
 clear h hx
 go_enter Tryz.func141, Tryz.ntmps141
 replace HT := Lib.hid (HT.out.drew g2)
 go_wp2_with fail
 refine wp_region_held_drew (S := (fun W => W.cell? ⟨B, 0, none⟩ = some (.pointer (some ⟨g, 0, none⟩)))) (by kernel_rfl) (HT.out.c0) (fun hHeld => ?_)
 refine tk 0 (h := ?_)
 refine tk 1 (h := ?_)
 refine tk 2 (h := ?_)
 refine tk 3 (hy := fun W hSw => by ((have q := hSw; go_simp) <;> with_reducible rfl)) (h := ?_)
 refine tk 4 (h := ?_)
 refine tk 5 (h := ?_)
 refine rd2 6 11 (h := fun K' hK => ?g231_0) (h' := fun K' hK => ?g231_1)
 case g231_0 =>
  go_simp
  go_at_call 138
  refine (tk_open g2 HT.out HX.out).mono ?_
  rintro e' W2 (⟨⟨z, c⟩, M, hm, rfl, hT⟩ | ⟨c, M, hm, hc, rfl, hT⟩)
  ·have HM := Lib.hid hm
   replace HT := Lib.hid hT
   clear hm hT
   obtain ⟨t, ok, ht⟩ : ∃ t ok, getT M c = (t, ok) := ⟨_, _, rfl⟩
   have HG := Lib.hid ht
   have HTS := Lib.hid (text_small HT.out.cs.sound c)
   clear ht
   go_wp2_with fail
   refine hK.out _ _ (HT.out.c0) (fun hHeld => ?_)
   clear hK K'
   try simp only [Act.put, p1, p2, p3]
   refine rd2 7 11 (h := fun K' hK => ?g232_0) (h' := fun K' hK => ?g232_1)
   case g232_0 =>
    go_simp
    go_at_call 102
    refine (HT.out.cs.pair.getP g2 c HG.out).mono ?_
    rintro e' W3 ⟨rfl, hp, hb⟩
    replace HT := Lib.hid (HT.out.below g2 hb)
    clear hp hb
    simp only [Tm.v]
    go_wp2_with fail
    refine hK.out _ _ (HT.out.c0) (fun hHeld => ?_)
    clear hK K'
    try simp only [Act.put, p1, p2, p3]
    refine tk 8 (h := ?_)
    refine tk 9 (h := ?_)
    refine tk 10 (h := ?_)
    refine rd 11 (h := fun K' hK => ?_)
    go_simp
    have HT0 := HT
    obtain ⟨hbx, hbn⟩ := HT.out.box g2 #[.int .i64 0, .string ⟨#[]⟩, .int .u64 0, .int .i64 0, .int .i64 0, .int .i64 0] 116 (b := W3.heap.size) (by first | rfl | simp)
    replace HT := Lib.hid hbx
    have HN := Lib.hid hbn
    clear hbx hbn
    refine hK.out _ _ (HT.out.c0) (fun hHeld => ?_)
    clear hK K'
    try simp only [Act.put, p1, p2, p3]
    refine rd 12 (h := fun K' hK => ?_)
    go_simp
    obtain ⟨hbx, hbn⟩ := HT0.out.box g2 #[.int .i64 t.K, .string t.S, .int .u64 t.N, .int .i64 t.A, .int .i64 t.B, .int .i64 t.C] 116 (b := W3.heap.size) rfl
    replace HT := Lib.hid hbx.unbox0
    have HR := Lib.hid (hbx.cs.kept _ _ (List.mem_cons_of_mem _ List.mem_cons_self))
    clear hbx hbn HT0
    refine hK.out _ _ (HT.out.c0) (fun hHeld => ?_)
    clear hK K'
    try simp only [Act.put, p1, p2, p3]
    refine tk 13 (h := ?_)
    refine wpAnyH_done (by kernel_rfl) ?_ _
    generalize hWx : World.alloc _ _ = Wx at HT HR ⊢
    clear hWx
    have r0 := cell_of_row Wx _ 0 _ _ _ HR.out
    have r1 := cell_of_row Wx _ 1 _ _ _ HR.out
    simp at r0 r1
    by_cases hK : t.K = 1
    ·have hk : (t.K != 1) = false := by simp [hK]
     have HE : Hid (textG y x most L = (.ok (z, t.S), M)) := Lib.hid ((G.to_ok HM.out).trans (by simp [HG.out, hK]))
     have HS : Hid (t.S.size ≤ 1000) := Lib.hid (by have := HTS.out; rw [HG.out] at this; exact this)
     clear hK
     go_wp2_with fail
     go_ret
     exact .inl ⟨_, _, HE.out, rfl, HT.out, HS.out⟩
    ·have hk : (t.K != 1) = true := by simp [hK]
     have HE : Hid (textG y x most L = (.error 3, M)) := Lib.hid ((G.to_ok HM.out).trans (by simp [HG.out, hK]))
     clear hK
     go_wp2_with fail
     exact ⟨rfl, .inr ⟨_, _, HE.out, by decide, rfl, HT.out.fall⟩⟩
   case g232_1 =>
    go_simp
    obtain ⟨hbx, hbn⟩ := HT.out.box g2 #[.int .i64 0, .string ⟨#[]⟩, .int .u64 0, .int .i64 0, .int .i64 0, .int .i64 0] 116 (b := W2.heap.size) (by first | rfl | simp)
    replace HT := Lib.hid hbx
    have HN := Lib.hid hbn
    clear hbx hbn
    refine hK.out _ _ (HT.out.c0) (fun hHeld => ?_)
    clear hK K'
    try simp only [Act.put, p1, p2, p3]
    refine rd 7 (h := fun K' hK => ?_)
    go_simp
    go_at_call 102
    refine (HT.out.cs.pair.getP g2 c HG.out).mono ?_
    rintro e' W3 ⟨rfl, hp, hb⟩
    replace HT := Lib.hid (HT.out.below g2 hb)
    clear hp hb
    simp only [Tm.v]
    go_wp2_with fail
    refine hK.out _ _ (HT.out.c0) (fun hHeld => ?_)
    clear hK K'
    try simp only [Act.put, p1, p2, p3]
    refine tk 8 (h := ?_)
    refine tk 9 (h := ?_)
    refine tk 10 (h := ?_)
    refine rd 12 (h := fun K' hK => ?_)
    obtain ⟨b0, bf0⟩ := HT.out.boxc (List.mem_cons_self) 0 rfl
    obtain ⟨b1, bf1⟩ := HT.out.boxc (List.mem_cons_self) 1 rfl
    obtain ⟨b2, bf2⟩ := HT.out.boxc (List.mem_cons_self) 2 rfl
    obtain ⟨b3, bf3⟩ := HT.out.boxc (List.mem_cons_self) 3 rfl
    obtain ⟨b4, bf4⟩ := HT.out.boxc (List.mem_cons_self) 4 rfl
    obtain ⟨b5, bf5⟩ := HT.out.boxc (List.mem_cons_self) 5 rfl
    go_simp
    have hr0 := HT.out.cs.kept _ _ (List.mem_cons_of_mem _ List.mem_cons_self)
    have HR := Lib.hid (row_set6 (.int .i64 t.K) (.string t.S) (.int .u64 t.N) (.int .i64 t.A) (.int .i64 t.B) (.int .i64 t.C) hr0)
    replace HT := Lib.hid (HT.out.unbox g2 HN.out (chg6 _ _ (.int .i64 t.K) (.string t.S) (.int .u64 t.N) (.int .i64 t.A) (.int .i64 t.B) (.int .i64 t.C)))
    clear hr0 b0 b1 b2 b3 b4 b5 bf0 bf1 bf2 bf3 bf4 bf5
    refine hK.out _ _ (HT.out.c0) (fun hHeld => ?_)
    clear hK K'
    try simp only [Act.put, p1, p2, p3]
    refine tk 13 (h := ?_)
    refine wpAnyH_done (by kernel_rfl) ?_ _
    generalize hWx : World.setCell _ _ _ = Wx at HT HR ⊢
    clear hWx
    have r0 := cell_of_row Wx _ 0 _ _ _ HR.out
    have r1 := cell_of_row Wx _ 1 _ _ _ HR.out
    simp at r0 r1
    by_cases hK : t.K = 1
    ·have hk : (t.K != 1) = false := by simp [hK]
     have HE : Hid (textG y x most L = (.ok (z, t.S), M)) := Lib.hid ((G.to_ok HM.out).trans (by simp [HG.out, hK]))
     have HS : Hid (t.S.size ≤ 1000) := Lib.hid (by have := HTS.out; rw [HG.out] at this; exact this)
     clear hK
     go_wp2_with fail
     go_ret
     exact .inl ⟨_, _, HE.out, rfl, HT.out, HS.out⟩
    ·have hk : (t.K != 1) = true := by simp [hK]
     have HE : Hid (textG y x most L = (.error 3, M)) := Lib.hid ((G.to_ok HM.out).trans (by simp [HG.out, hK]))
     clear hK
     go_wp2_with fail
     exact ⟨rfl, .inr ⟨_, _, HE.out, by decide, rfl, HT.out.fall⟩⟩
  ·unfold Fell
   go_wp2_with fail
   refine ⟨rfl, .inr ⟨_, _, G.to_bad hm, hc, rfl, hT⟩⟩
 case g231_1 =>
  go_simp
  obtain ⟨hbx, hbn⟩ := HT.out.box g2 #[.int .i64 0, .string ⟨#[]⟩, .int .u64 0, .int .i64 0, .int .i64 0, .int .i64 0] 116 (b := w.heap.size) (by first | rfl | simp)
  replace HT := Lib.hid hbx
  have HN := Lib.hid hbn
  clear hbx hbn
  refine hK.out _ _ (HT.out.c0) (fun hHeld => ?_)
  clear hK K'
  try simp only [Act.put, p1, p2, p3]
  refine rd 6 (h := fun K' hK => ?_)
  go_simp
  go_at_call 138
  refine (tk_open g2 HT.out HX.out).mono ?_
  rintro e' W2 (⟨⟨z, c⟩, M, hm, rfl, hT⟩ | ⟨c, M, hm, hc, rfl, hT⟩)
  ·have HM := Lib.hid hm
   replace HT := Lib.hid hT
   clear hm hT
   obtain ⟨t, ok, ht⟩ : ∃ t ok, getT M c = (t, ok) := ⟨_, _, rfl⟩
   have HG := Lib.hid ht
   have HTS := Lib.hid (text_small HT.out.cs.sound c)
   clear ht
   go_wp2_with fail
   refine hK.out _ _ (HT.out.c0) (fun hHeld => ?_)
   clear hK K'
   try simp only [Act.put, p1, p2, p3]
   refine rd 7 (h := fun K' hK => ?_)
   go_simp
   go_at_call 102
   refine (HT.out.cs.pair.getP g2 c HG.out).mono ?_
   rintro e' W3 ⟨rfl, hp, hb⟩
   replace HT := Lib.hid (HT.out.below g2 hb)
   clear hp hb
   simp only [Tm.v]
   go_wp2_with fail
   refine hK.out _ _ (HT.out.c0) (fun hHeld => ?_)
   clear hK K'
   try simp only [Act.put, p1, p2, p3]
   refine tk 8 (h := ?_)
   refine tk 9 (h := ?_)
   refine tk 10 (h := ?_)
   refine rd 12 (h := fun K' hK => ?_)
   obtain ⟨b0, bf0⟩ := HT.out.boxc (List.mem_cons_self) 0 rfl
   obtain ⟨b1, bf1⟩ := HT.out.boxc (List.mem_cons_self) 1 rfl
   obtain ⟨b2, bf2⟩ := HT.out.boxc (List.mem_cons_self) 2 rfl
   obtain ⟨b3, bf3⟩ := HT.out.boxc (List.mem_cons_self) 3 rfl
   obtain ⟨b4, bf4⟩ := HT.out.boxc (List.mem_cons_self) 4 rfl
   obtain ⟨b5, bf5⟩ := HT.out.boxc (List.mem_cons_self) 5 rfl
   go_simp
   have hr0 := HT.out.cs.kept _ _ (List.mem_cons_of_mem _ List.mem_cons_self)
   have HR := Lib.hid (row_set6 (.int .i64 t.K) (.string t.S) (.int .u64 t.N) (.int .i64 t.A) (.int .i64 t.B) (.int .i64 t.C) hr0)
   replace HT := Lib.hid (HT.out.unbox g2 HN.out (chg6 _ _ (.int .i64 t.K) (.string t.S) (.int .u64 t.N) (.int .i64 t.A) (.int .i64 t.B) (.int .i64 t.C)))
   clear hr0 b0 b1 b2 b3 b4 b5 bf0 bf1 bf2 bf3 bf4 bf5
   refine hK.out _ _ (HT.out.c0) (fun hHeld => ?_)
   clear hK K'
   try simp only [Act.put, p1, p2, p3]
   refine tk 13 (h := ?_)
   refine wpAnyH_done (by kernel_rfl) ?_ _
   generalize hWx : World.setCell _ _ _ = Wx at HT HR ⊢
   clear hWx
   have r0 := cell_of_row Wx _ 0 _ _ _ HR.out
   have r1 := cell_of_row Wx _ 1 _ _ _ HR.out
   simp at r0 r1
   by_cases hK : t.K = 1
   ·have hk : (t.K != 1) = false := by simp [hK]
    have HE : Hid (textG y x most L = (.ok (z, t.S), M)) := Lib.hid ((G.to_ok HM.out).trans (by simp [HG.out, hK]))
    have HS : Hid (t.S.size ≤ 1000) := Lib.hid (by have := HTS.out; rw [HG.out] at this; exact this)
    clear hK
    go_wp2_with fail
    go_ret
    exact .inl ⟨_, _, HE.out, rfl, HT.out, HS.out⟩
   ·have hk : (t.K != 1) = true := by simp [hK]
    have HE : Hid (textG y x most L = (.error 3, M)) := Lib.hid ((G.to_ok HM.out).trans (by simp [HG.out, hK]))
    clear hK
    go_wp2_with fail
    exact ⟨rfl, .inr ⟨_, _, HE.out, by decide, rfl, HT.out.fall⟩⟩
  ·unfold Fell
   go_wp2_with fail
   refine ⟨rfl, .inr ⟨_, _, G.to_bad hm, hc, rfl, hT.less (fun x q => List.mem_cons_of_mem _ q)⟩⟩
end
end Go.Proofs.YtgeonppckeiceaaGreatDoor
namespace Go.Proofs
open Go.Shelf
def Tryz.lays171_ren : Go.Shelf.Ren := ⟨fun | 171 => 168 | 243 => 199 | 246 => 219 | 283 => 227 | 284 => 228 | 285 => 229 | 286 => 230 | 129 => 174 | 317 => 236 | 318 => 237 | 319 => 238 | 320 => 239 | 337 => 241 | 338 => 242 | n => n, fun | 3 => 3 | 9 => 9 | 2 => 2 | 4 => 4 | 171 => 284 | 0 => 0 | 53 => 23 | 37 => 89 | 5 => 5 | 173 => 286 | 212 => 295 | 51 => 291 | 20 => 20 | 213 => 296 | 46 => 274 | 232 => 300 | 233 => 301 | n => n, fun | 17 => 1 | 18 => 2 | 19 => 3 | n => n⟩
theorem Tryz.lays171 : Go.Proofs.Lays.n171 Tryz.prog Tryz.lays171_ren := {
 mixed := by kernel_rfl
 f129 := Tryz.func174.trans (congrArg some (by kernel_rfl))
 f171 := Tryz.func168.trans (congrArg some (by kernel_rfl))
 f243 := Tryz.func199.trans (congrArg some (by kernel_rfl))
 f246 := Tryz.func219.trans (congrArg some (by kernel_rfl))
 f283 := Tryz.func227.trans (congrArg some (by kernel_rfl))
 f284 := Tryz.func228.trans (congrArg some (by kernel_rfl))
 f285 := Tryz.func229.trans (congrArg some (by kernel_rfl))
 f286 := Tryz.func230.trans (congrArg some (by kernel_rfl))
 f317 := Tryz.func236.trans (congrArg some (by kernel_rfl))
 f318 := Tryz.func237.trans (congrArg some (by kernel_rfl))
 f319 := Tryz.func238.trans (congrArg some (by kernel_rfl))
 f320 := Tryz.func239.trans (congrArg some (by kernel_rfl))
 f337 := Tryz.func241.trans (congrArg some (by kernel_rfl))
 f338 := Tryz.func242.trans (congrArg some (by kernel_rfl))
 t0 := Tryz.underlying0
 a0 := Tryz.isAgg0
 z0 := Tryz.sizeOf0
 v0 := Tryz.zeroValue0
 t2 := Tryz.underlying2
 a2 := Tryz.isAgg2
 z2 := Tryz.sizeOf2
 v2 := Tryz.zeroValue2
 t3 := Tryz.underlying3
 a3 := Tryz.isAgg3
 z3 := Tryz.sizeOf3
 v3 := Tryz.zeroValue3
 t4 := Tryz.underlying4
 a4 := Tryz.isAgg4
 z4 := Tryz.sizeOf4
 v4 := Tryz.zeroValue4
 t5 := Tryz.underlying5
 a5 := Tryz.isAgg5
 z5 := Tryz.sizeOf5
 v5 := Tryz.zeroValue5
 t9 := Tryz.underlying9
 a9 := Tryz.isAgg9
 z9 := Tryz.sizeOf9
 v9 := Tryz.zeroValue9
 t20 := Tryz.underlying20
 a20 := Tryz.isAgg20
 z20 := Tryz.sizeOf20
 v20 := Tryz.zeroValue20
 t37 := Tryz.underlying89
 a37 := Tryz.isAgg89
 z37 := Tryz.sizeOf89
 v37 := Tryz.zeroValue89
 t46 := Tryz.underlying274
 a46 := Tryz.isAgg274
 z46 := Tryz.sizeOf274
 v46 := Tryz.zeroValue274
 t51 := Tryz.underlying291
 a51 := Tryz.isAgg291
 z51 := Tryz.sizeOf291
 v51 := Tryz.zeroValue291
 t53 := Tryz.underlying23
 a53 := Tryz.isAgg23
 z53 := Tryz.sizeOf23
 v53 := Tryz.zeroValue23
 t171 := Tryz.underlying284
 a171 := Tryz.isAgg284
 z171 := Tryz.sizeOf284
 v171 := Tryz.zeroValue284
 t173 := Tryz.underlying286
 a173 := Tryz.isAgg286
 z173 := Tryz.sizeOf286
 v173 := Tryz.zeroValue286
 t212 := Tryz.underlying295
 a212 := Tryz.isAgg295
 z212 := Tryz.sizeOf295
 v212 := Tryz.zeroValue295
 t213 := Tryz.underlying296
 a213 := Tryz.isAgg296
 z213 := Tryz.sizeOf296
 t232 := Tryz.underlying300
 a232 := Tryz.isAgg300
 z232 := Tryz.sizeOf300
 v232 := Tryz.zeroValue300
 t233 := Tryz.underlying301
 a233 := Tryz.isAgg301
 z233 := Tryz.sizeOf301
 v233 := Tryz.zeroValue301
 g17 := by kernel_rfl
 g18 := by kernel_rfl
 g19 := by kernel_rfl }
theorem Tryz.strconv_Itoa_small (i : Nat) (hi : i < 100) (w : World) :
  Calls Tryz.prog 168 #[.int .i64 i] w fun e w' => e = .returned (.string ⟨(Lib.decDigits i).toArray⟩) ∧ w' = w := Any.strconv_Itoa_small Tryz.lays171 i hi w
def Tryz.lays144_ren : Go.Shelf.Ren := ⟨fun | 144 => 149 | 143 => 187 | 219 => 214 | 217 => 223 | 225 => 224 | 224 => 225 | 267 => 226 | 266 => 234 | 314 => 235 | n => n, fun | 9 => 9 | 4 => 4 | 3 => 3 | 5 => 5 | 46 => 274 | 146 => 292 | 51 => 291 | n => n, fun | 1 => 0 | n => n⟩
theorem Tryz.lays144 : Go.Proofs.Lays.n144 Tryz.prog Tryz.lays144_ren := {
 mixed := by kernel_rfl
 f143 := Tryz.func187.trans (congrArg some (by kernel_rfl))
 f144 := Tryz.func149.trans (congrArg some (by kernel_rfl))
 f217 := Tryz.func223.trans (congrArg some (by kernel_rfl))
 f219 := Tryz.func214.trans (congrArg some (by kernel_rfl))
 f224 := Tryz.func225.trans (congrArg some (by kernel_rfl))
 f225 := Tryz.func224.trans (congrArg some (by kernel_rfl))
 f266 := Tryz.func234.trans (congrArg some (by kernel_rfl))
 f267 := Tryz.func226.trans (congrArg some (by kernel_rfl))
 f314 := Tryz.func235.trans (congrArg some (by kernel_rfl))
 t3 := Tryz.underlying3
 a3 := Tryz.isAgg3
 z3 := Tryz.sizeOf3
 v3 := Tryz.zeroValue3
 t4 := Tryz.underlying4
 a4 := Tryz.isAgg4
 z4 := Tryz.sizeOf4
 v4 := Tryz.zeroValue4
 t5 := Tryz.underlying5
 a5 := Tryz.isAgg5
 z5 := Tryz.sizeOf5
 v5 := Tryz.zeroValue5
 t9 := Tryz.underlying9
 a9 := Tryz.isAgg9
 z9 := Tryz.sizeOf9
 v9 := Tryz.zeroValue9
 t46 := Tryz.underlying274
 a46 := Tryz.isAgg274
 z46 := Tryz.sizeOf274
 v46 := Tryz.zeroValue274
 t51 := Tryz.underlying291
 a51 := Tryz.isAgg291
 z51 := Tryz.sizeOf291
 v51 := Tryz.zeroValue291
 t146 := Tryz.underlying292
 a146 := Tryz.isAgg292
 z146 := Tryz.sizeOf292
 v146 := Tryz.zeroValue292
 g1 := by kernel_rfl }
theorem Tryz.strings_Contains_one (s : ByteArray) (c : UInt8) (w : World) :
  Calls Tryz.prog 149 #[.string s, .string ⟨#[c]⟩] w fun e w' => e = .returned (.bool (decide (0 ≤ Lib.indexByte s.data.toList c))) ∧ w' = w := Any.strings_Contains_one Tryz.lays144 s c w
end Go.Proofs
namespace Go.Proofs.YtgeonppckeiceaaGreatDoor
open Go.RowKit
set_option linter.unusedVariables false
set_option linter.unusedSimpArgs false
set_option maxRecDepth 20000
theorem itoa_slot (slot : Int) (hs : slot = 0 ∨ slot = 1) (w : World) : Calls Tryz.prog 168 #[.int .i64 slot] w fun e w' => e = .returned (.string (slotS slot)) ∧ w' = w := by
 rcases hs with rfl | rfl
 ·refine (Tryz.strconv_Itoa_small 0 (by decide) w).mono ?_
  rintro e w' ⟨rfl, rfl⟩
  exact ⟨by kernel_rfl, rfl⟩
 ·refine (Tryz.strconv_Itoa_small 1 (by decide) w).mono ?_
  rintro e w' ⟨rfl, rfl⟩
  exact ⟨by kernel_rfl, rfl⟩
theorem slot_len (slot : Int) : (slotS slot).size ≤ maxLen := by
 have := slot_size slot
 have : (1000 : Nat) ≤ maxLen := by decide
 omega
section
variable {base g B : Nat} {most : Int} {Q2 : (Nat → Prop) → List Tm → World → Prop} {L L' L2 : List Tm} {bs : List (Nat × Obj)} {T : TypeId} {y y' : Sy} {rest : List Value} {w0 w w' : World}
set_option maxHeartbeats 2000000 in
theorem tk_first (g2 : Good base Q2) (h : Tk base g most Q2 L L2 bs B T y rest w0 w) {offer : ByteArray} {slot p q : Int} (ho : offer.size ≤ maxLen) (hs : slot = 0 ∨ slot = 1) (hp : I64 p) (hq : I64 q) :
  Calls Tryz.prog 116 #[.pointer (some ⟨B, 0, none⟩), .string offer, .int .i64 slot, .agg #[.int .i64 p, .int .i64 q]] w (Gp (firstG offer slot (p, q) most L) (fun _ => .tuple #[]) (fun L' x w' => Tk base g most Q2 L' L2 bs B T x rest w0 w') (fun L' w' => Cs base (PSq base g most) Q2 L' L2 bs w0 w')) := by
 have HFA := Lib.hid h.facts
 have HSO := Lib.hid h.cs.sound
 have HO := Lib.hid ho
 have HS := Lib.hid hs
 have HP := Lib.hid hp
 have HQ := Lib.hid hq
 have HT := Lib.hid h
 clear h ho hs hp hq
 go_enter Tryz.func116, Tryz.ntmps116
 obtain ⟨hbx, hbn⟩ := HT.out.box g2 #[.int .i64 p, .int .i64 q] 33 (b := w.heap.size) rfl
 replace HT := Lib.hid hbx
 clear hbx hbn
 obtain ⟨z, e, L1, hf⟩ : ∃ z e L1, beginF L most nameS = (z, e, L1) := ⟨_, _, _, rfl⟩
 have HF := Lib.hid hf
 have HFs := Lib.hid (begin_sd HT.out.cs.sound hf)
 clear hf
 have c0 := HT.out.c0
 have c1 := HT.out.c1
 have c2 := HT.out.c2
 have c3 := HT.out.c3
 have c4 := HT.out.c4
 go_wp2_with fail
 have HB : Hid (e = 0 → z.Wf) := Lib.hid (fun hz => begin_wf HT.out.facts.2.1 HT.out.facts.2.2 (by have := HF.out; rw [hz] at this; exact this))
 refine (HT.out.cs.pair.beginP g2 (S := nameS) (by decide) HF.out).mono ?_
 rintro e' W1 ⟨rfl, hp, hk⟩
 replace HT := Lib.hid (HT.out.step hp hk HFs.out)
 clear hp hk c0 c1 c2 c3 c4
 simp only [Sy.v]
 go_wp2_with fail
 by_cases he : e = 0
 ·subst he
  replace HB := Lib.hid (HB.out rfl)
  refine (gotY_yes _ _ _ _ _).mono ?_
  rintro e' W3 ⟨rfl, hb⟩
  replace HT := Lib.hid (HT.out.below g2 hb)
  clear hb
  have d0 := HT.out.c0
  have d1 := HT.out.c1
  have d2 := HT.out.c2
  have d3 := HT.out.c3
  have d4 := HT.out.c4
  have f1 := HT.out.fz 1
  have f2 := HT.out.fz 2
  have f3 := HT.out.fz 3
  have f4 := HT.out.fz 4
  go_wp2_with fail
  replace HT := Lib.hid (HT.out.put4 g2 HB.out)
  clear d0 d1 d2 d3 d4 f1 f2 f3 f4
  generalize World.setCell _ _ _ = W4 at HT ⊢
  have HFA := Lib.hid HT.out.facts
  have HT0 := HT
  refine (tk_text g2 HT.out HO.out).mono ?_
  rintro e' W2 (⟨xx, M, hm, rfl, hT⟩ | ⟨c, M, hm, hc, rfl, hT⟩)
  ·have HM := Lib.hid hm
   replace HT := Lib.hid hT
   clear hm hT
   have E1 := HM
   clear HM
   have HX := Lib.hid (putG_i64 HT0.out.facts.2.1 HT0.out.facts.2.2 E1.out)
   go_wp2_with fail
   refine (tk_hash g2 HT.out HX.out).mono ?_
   rintro e' W2 (⟨xx, M, hm, rfl, hT⟩ | ⟨c, M, hm, hc, rfl, hT⟩)
   ·have HM := Lib.hid hm
    replace HT := Lib.hid hT
    clear hm hT
    have E2 := HM
    clear HM
    clear HX HT0
    go_wp2_with fail
    refine (itoa_slot slot HS.out _).mono ?_
    rintro e' W5 ⟨rfl, rfl⟩
    have HT0 := HT
    go_wp2_with fail
    refine (tk_text g2 HT.out (slot_len slot)).mono ?_
    rintro e' W2 (⟨xx, M, hm, rfl, hT⟩ | ⟨c, M, hm, hc, rfl, hT⟩)
    ·have HM := Lib.hid hm
     replace HT := Lib.hid hT
     clear hm hT
     have E3 := HM
     clear HM
     have HX := Lib.hid (putG_i64 HT0.out.facts.2.1 HT0.out.facts.2.2 E3.out)
     go_wp2_with fail
     refine (tk_hash g2 HT.out HX.out).mono ?_
     rintro e' W2 (⟨xx, M, hm, rfl, hT⟩ | ⟨c, M, hm, hc, rfl, hT⟩)
     ·have HM := Lib.hid hm
      replace HT := Lib.hid hT
      clear hm hT
      have E4 := HM
      clear HM
      obtain ⟨kb0, kbf0⟩ := HT.out.boxc List.mem_cons_self 0 rfl
      obtain ⟨kb1, kbf1⟩ := HT.out.boxc List.mem_cons_self 1 rfl
      go_wp2_with fail
      clear kb0 kbf0 kb1 kbf1
      refine (tk_hash g2 HT.out HP.out).mono ?_
      rintro e' W2 (⟨xx, M, hm, rfl, hT⟩ | ⟨c, M, hm, hc, rfl, hT⟩)
      ·have HM := Lib.hid hm
       replace HT := Lib.hid hT
       clear hm hT
       have E5 := HM
       clear HM
       obtain ⟨kb0, kbf0⟩ := HT.out.boxc List.mem_cons_self 0 rfl
       obtain ⟨kb1, kbf1⟩ := HT.out.boxc List.mem_cons_self 1 rfl
       go_wp2_with fail
       clear kb0 kbf0 kb1 kbf1
       refine (tk_hash g2 HT.out HQ.out).mono ?_
       rintro e' W2 (⟨xx, M, hm, rfl, hT⟩ | ⟨c, M, hm, hc, rfl, hT⟩)
       ·have HM := Lib.hid hm
        replace HT := Lib.hid hT
        clear hm hT
        have E6 := HM
        clear HM
        go_wp2_with fail
        go_end0
        exact .inl ⟨_, _, (G.to_ok (startG_ok HF.out)).trans ((G.to_ok E1.out).trans ((G.to_ok E2.out).trans ((G.to_ok E3.out).trans ((G.to_ok E4.out).trans ((G.to_ok E5.out).trans (E6.out)))))), rfl, HT.out.unbox0⟩
       ·unfold Fell
        go_wp2_with fail
        refine ⟨rfl, .inr ⟨_, _, (G.to_ok (startG_ok HF.out)).trans ((G.to_ok E1.out).trans ((G.to_ok E2.out).trans ((G.to_ok E3.out).trans ((G.to_ok E4.out).trans ((G.to_ok E5.out).trans (hm)))))), hc, rfl, hT.less (fun x q => List.mem_cons_of_mem _ q)⟩⟩
      ·unfold Fell
       go_wp2_with fail
       refine ⟨rfl, .inr ⟨_, _, (G.to_ok (startG_ok HF.out)).trans ((G.to_ok E1.out).trans ((G.to_ok E2.out).trans ((G.to_ok E3.out).trans ((G.to_ok E4.out).trans (G.to_bad hm))))), hc, rfl, hT.less (fun x q => List.mem_cons_of_mem _ q)⟩⟩
     ·unfold Fell
      go_wp2_with fail
      refine ⟨rfl, .inr ⟨_, _, (G.to_ok (startG_ok HF.out)).trans ((G.to_ok E1.out).trans ((G.to_ok E2.out).trans ((G.to_ok E3.out).trans (G.to_bad hm)))), hc, rfl, hT.less (fun x q => List.mem_cons_of_mem _ q)⟩⟩
    ·unfold Fell
     go_wp2_with fail
     refine ⟨rfl, .inr ⟨_, _, (G.to_ok (startG_ok HF.out)).trans ((G.to_ok E1.out).trans ((G.to_ok E2.out).trans (G.to_bad hm))), hc, rfl, hT.less (fun x q => List.mem_cons_of_mem _ q)⟩⟩
   ·unfold Fell
    go_wp2_with fail
    refine ⟨rfl, .inr ⟨_, _, (G.to_ok (startG_ok HF.out)).trans ((G.to_ok E1.out).trans (G.to_bad hm)), hc, rfl, hT.less (fun x q => List.mem_cons_of_mem _ q)⟩⟩
  ·unfold Fell
   go_wp2_with fail
   refine ⟨rfl, .inr ⟨_, _, (G.to_ok (startG_ok HF.out)).trans (G.to_bad hm), hc, rfl, hT.less (fun x q => List.mem_cons_of_mem _ q)⟩⟩
 ·have HE := Lib.hid he
  clear he
  refine (gotY_no _ _ _ _ _ HE.out _).mono ?_
  rintro e' W3 ⟨rfl, hb⟩
  replace HT := Lib.hid (HT.out.below g2 hb)
  clear hb
  unfold Fell
  go_wp2_with fail
  exact ⟨rfl, .inr ⟨_, _, G.to_bad (startG_no HF.out HE.out), HE.out, rfl, HT.out.unbox0.fall⟩⟩
end
theorem assert_errno (c : Int) (w : World) : (Instr.typeAssert (.iface 34 (.int .i64 c)) 20 34 true).run Tryz.prog w = .ok (.tuple #[.int .i64 c, .bool true]) w := by kernel_rfl
theorem eql_some (c : Int) (w : World) : (binOp .eql 20 (.iface 34 (.int .i64 c)) .nilIface).run Tryz.prog w = .ok (.bool false) w := by kernel_rfl
theorem eql_none (w : World) : (binOp .eql 20 .nilIface .nilIface).run Tryz.prog w = .ok (.bool true) w := by kernel_rfl
set_option maxHeartbeats 1000000 in
theorem catch_fell (p : Addr) (c x : Int) (w : World) (hc : w.cell? p = some (.int .i64 x)) (hz : w.frozen? p = false) :
  CallsD Tryz.prog 115 #[.pointer (some p)] (.panicking [{ v := .iface 34 (.int .i64 c), recovered := false }]) w fun e u' w' =>
   e = .returned (.tuple #[]) ∧ u' = .panicking [{ v := .iface 34 (.int .i64 c), recovered := true }] ∧ w' = w.setCell p (.int .i64 c) := by
 have a1 := assert_errno c
 have a2 := eql_some c
 refine callsD_of_wpS Tryz.func115 rfl fun c₀ cs hu => ?_
 apply wpS_seq
 apply wpS_region
 simp [wpOpsS, go_sem, recoverD, hu, Tryz.ntmps115, Exit.thenS]
 apply wpS_of_wp
 go_wp2
 simp [bodyPostS, results, Tryz.results115, go_sem]
set_option maxHeartbeats 1000000 in
theorem catch_none (p : Addr) (w : World) :
  CallsD Tryz.prog 115 #[.pointer (some p)] .returning w fun e u' w' => e = .returned (.tuple #[]) ∧ u' = .returning ∧ w' = w := by
 have a2 := eql_none
 refine callsD_of_wpS Tryz.func115 rfl fun c₀ cs hu => ?_
 apply wpS_seq
 apply wpS_region
 simp [wpOpsS, go_sem, recoverD, hu, Tryz.ntmps115, Exit.thenS]
 apply wpS_of_wp
 go_wp2
 cases c₀
 simp_all [bodyPostS, results, Tryz.results115]
def Steps (n : Nat) (f : Nat → Nat) (t : Value) (St : Nat → World → Prop) (Bad : Int → World → Prop) : Prop :=
 ∀ i, i < n → (∀ (args : Array Value) (w : World), (callFunc (f i) args).run Tryz.prog w = .ok (.enter (f i) args) w) ∧ ∀ w, St i w → Calls Tryz.prog (f i) #[t] w fun e w' => (e = .returned (.tuple #[]) ∧ St (i + 1) w') ∨ ∃ c, c ≠ 0 ∧ e = Fell c ∧ Bad c w'
set_option maxHeartbeats 4000000 in
set_option maxRecDepth 100000 in
theorem turn_any {n : Nat} {f : Nat → Nat} {t : Value} {St : Nat → World → Prop} {Bad : Int → World → Prop} (hs : Steps n f t St Bad) (b off cap : Nat) (w : World) (hn : n ≤ 100)
  (h0 : St 0 (w.alloc (.cells #[.int .i64 0] 34)))
  (hrow : ∀ i u, St i u → i < n → u.cell? ⟨b, off + i, none⟩ = some (.func (.func (f i)) #[t] #[])) (hfr : ∀ i u, St i u → u.cell? ⟨w.heap.size, 0, none⟩ = some (.int .i64 0) ∧ u.frozen? ⟨w.heap.size, 0, none⟩ = false) (hbd : ∀ c u, Bad c u → u.cell? ⟨w.heap.size, 0, none⟩ = some (.int .i64 0) ∧ u.frozen? ⟨w.heap.size, 0, none⟩ = false) :
  Calls Tryz.prog 49 #[.slice (some ⟨b, off, none⟩) n cap] w fun e w' => (∃ u, e = .returned (.int .i64 0) ∧ St n u ∧ w' = u.setCell ⟨w.heap.size, 0, none⟩ (.int .i64 0)) ∨ ∃ c u, c ≠ 0 ∧ e = .returned (.int .i64 c) ∧ Bad c u ∧ w' = u.setCell ⟨w.heap.size, 0, none⟩ (.int .i64 c) := by
 have hmf : ∀ (fn : Fn) (first cap : Array Value) (w : World), (Instr.makeFunc fn first cap).run Tryz.prog w = .ok (.func fn first cap) w := fun _ _ _ _ => rfl
 have H0 := Lib.hid h0
 have HS := Lib.hid hs
 have HR := Lib.hid hrow
 have HF := Lib.hid hfr
 have HD := Lib.hid hbd
 clear hs h0 hrow hfr hbd
 go_enter_defers Tryz.func49, Tryz.ntmps49
 go_wp2_with fail
 go_loopw [8] (fun i wr => ∃ (k : Nat), k ≤ n ∧ i = .int .i64 k ∧ Hid (St k wr)) (fun i _ => n - (intOf i).toNat)
 case atStart => exact ⟨0, Nat.zero_le _, rfl, H0⟩
 case round =>
  obtain ⟨k, hk, rfl, HK⟩ := hrel
  by_cases hlt : k < n
  ·have hlt' : (k : Int) < (n : Int) := by omega
   have hn' : (n : Int) ≤ 100 := by omega
   have eg := (HS.out k hlt).1
   have c0 := HR.out k wr HK.out hlt
   have HL := Lib.hid hlt
   clear hlt hk
   go_wp2_with fail
   refine ((HS.out k HL.out).2 wr HK.out).mono ?_
   rintro e w2 (⟨rfl, h⟩ | ⟨c, hc, rfl, h⟩)
   ·have HK2 := Lib.hid h
    clear h
    go_wp2_with fail
    go_roundw
    case rel => exact ⟨k + 1, by have := HL.out; omega, by go_num, HK2⟩
    case measure => have := HL.out; simp [intOf]; omega
   ·have HK2 := Lib.hid h
    have HC := Lib.hid hc
    clear h hc
    obtain ⟨x0, x1⟩ := HD.out c w2 HK2.out
    unfold Fell
    go_wp2_with fail
    refine leaves_cons (f := 115) (args := #[.pointer (some ⟨w.heap.size, 0, none⟩)]) (by simp) (by simp [go_sem]) ?_
    refine (catch_fell ⟨w.heap.size, 0, none⟩ c 0 _ x0 x1).mono ?_
    rintro e u' w'' ⟨rfl, rfl, rfl⟩
    have hs := World.cell?_setCell_same w2 ⟨w.heap.size, 0, none⟩ (.int .i64 c) x0
    simp [Leaves, settle, results, Tryz.results49, go_sem, hs]
    exact .inr ⟨c, HC.out, rfl, w2, HK2.out, rfl⟩
  ·obtain rfl : k = n := by omega
   obtain ⟨x0, x1⟩ := HF.out k wr HK.out
   clear hlt
   go_wp2_with fail
   refine leaves_cons (f := 115) (args := #[.pointer (some ⟨w.heap.size, 0, none⟩)]) (by simp) (by simp [go_sem]) ?_
   refine (catch_none ⟨w.heap.size, 0, none⟩ _).mono ?_
   rintro e u' w'' ⟨rfl, rfl, rfl⟩
   have hs := World.cell?_setCell_same wr ⟨w.heap.size, 0, none⟩ (.int .i64 0) x0
   simp [Leaves, settle, results, Tryz.results49, go_sem, hs]
   exact .inl ⟨wr, HK.out, rfl⟩
end Go.Proofs.YtgeonppckeiceaaGreatDoor
