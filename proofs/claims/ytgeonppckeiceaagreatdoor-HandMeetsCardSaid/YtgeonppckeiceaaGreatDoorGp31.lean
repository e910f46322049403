/- The checks; the slot (by tools/stage17/steps.py). -/
/- The public keys of secrets: the program's contract. -/
/- The first peer of a public key: the library's IndexFunc over a row of peers, by the program's closure. -/
import Derived.Test.YtgeonppckeiceaaGreatDoorGp30
import Derived.Test.YtgeonppckeiceaaGreatDoorGp27
import Derived.Lib.Hide
namespace Go.Proofs.YtgeonppckeiceaaGreatDoor
open Go.RowKit
set_option linter.unusedVariables false
set_option linter.unusedSimpArgs false
set_option maxRecDepth 20000
section
variable {base g B : Nat} {most : Int} {Q2 : (Nat → Prop) → List Tm → World → Prop} {L L' L2 : List Tm} {bs : List (Nat × Obj)} {w0 w w' : World}
set_option maxHeartbeats 1000000 in
theorem mustBe_yes (m : Mg) (kind : Int) (w : World) (hm : Ms.Ms.Wf m) (hk : m.i 0 = kind) (hr : Ms.rightM m = true) :
    Calls Tryz.prog 125 #[m.v, .int .i64 kind] w fun e w' => e = .returned (.tuple #[]) ∧ Below w.heap.size w w' := by
  have HM := Lib.hid hm
  have HR := Lib.hid hr
  have hne : (m.i 0 != kind) = false := by simp [hk]
  clear hm hr hk
  simp only [Ms.Ms.v, Ms.Ms.cl]
  go_enter Tryz.func125, Tryz.ntmps125
  go_wp2_with fail
  refine (Ms.right_k m _ HM.out true HR).mono ?_
  rintro e w1 ⟨rfl, hb⟩
  have HB := Lib.hid ((below_alloc w _).trans (hb.mono (by simp)))
  clear hb
  go_wp2_with fail
  go_end0
  exact ⟨rfl, HB.out⟩
set_option maxHeartbeats 1000000 in
theorem mustBe_no (m : Mg) (kind : Int) (w : World) (hm : Ms.Ms.Wf m) (h : ¬ (m.i 0 = kind ∧ Ms.rightM m = true)) :
    Calls Tryz.prog 125 #[m.v, .int .i64 kind] w fun e w' => e = Fell 3 ∧ Below w.heap.size w w' := by
  have HM := Lib.hid hm
  by_cases hk : m.i 0 = kind
  · have HR : Hid (Ms.rightM m = false) := Lib.hid (by cases hx : Ms.rightM m with | true => exact absurd ⟨hk, hx⟩ h | false => rfl)
    have hne : (m.i 0 != kind) = false := by simp [hk]
    clear hm h hk
    simp only [Ms.Ms.v, Ms.Ms.cl]
    go_enter Tryz.func125, Tryz.ntmps125
    go_wp2_with fail
    refine (Ms.right_k m _ HM.out false HR).mono ?_
    rintro e w1 ⟨rfl, hb⟩
    have HB := Lib.hid ((below_alloc w _).trans (hb.mono (by simp)))
    clear hb
    go_wp2_with fail
    exact ⟨rfl, rfl, HB.out⟩
  · have hne : (m.i 0 != kind) = true := by simp [hk]
    clear hm h hk
    simp only [Ms.Ms.v, Ms.Ms.cl]
    go_enter Tryz.func125, Tryz.ntmps125
    go_wp2_with fail
    exact ⟨rfl, rfl, below_alloc w _⟩
set_option maxHeartbeats 1000000 in
theorem bg_checkSlot (g2 : Good base Q2) {P : BgP} {s : Begun} (h : Tk base g most Q2 L L2 bs B 129 s.y (P.rest s) w0 w) (ho : BgOk s) :
    Calls Tryz.prog 50 #[.pointer (some ⟨B, 0, none⟩)] w (Gp (bgSlot P s most L) (fun _ => .tuple #[]) (fun L' x w' => Tk base g most Q2 L' L2 bs B 129 x.y (P.rest x) w0 w' ∧ BgOk x ∧ (P.slot = 0 ∨ P.slot = 1)) (fun L' w' => Cs base (PSq base g most) Q2 L' L2 bs w0 w')) := by
  have HT := Lib.hid h
  have HO := Lib.hid ho
  have m4 := h.at 10 rfl
  clear h ho
  by_cases h1 : P.slot < 0
  · have hl : decide (P.slot < 0) = true := by simpa using h1
    have HG : Hid (bgSlot P s most L = (.error 1, L)) := Lib.hid (by unfold bgSlot; rw [if_neg (by omega)])
    clear h1
    go_enter Tryz.func50, Tryz.ntmps50
    go_wp2_with fail
    exact ⟨rfl, .inr ⟨_, _, HG.out, by decide, rfl, HT.out.fall⟩⟩
  · have hl : decide (P.slot < 0) = false := by simpa using h1
    by_cases h2 : 2 ≤ P.slot
    · have hg : decide (2 ≤ P.slot) = true := by simpa using h2
      have HG : Hid (bgSlot P s most L = (.error 1, L)) := Lib.hid (by unfold bgSlot; rw [if_neg (by omega)])
      clear h1 h2
      go_enter Tryz.func50, Tryz.ntmps50
      go_wp2_with fail
      exact ⟨rfl, .inr ⟨_, _, HG.out, by decide, rfl, HT.out.fall⟩⟩
    · have hg : decide (2 ≤ P.slot) = false := by simpa using h2
      have HS : Hid (P.slot = 0 ∨ P.slot = 1) := Lib.hid (by omega)
      have HG : Hid (bgSlot P s most L = (.ok s, L)) := Lib.hid (by unfold bgSlot; rw [if_pos HS.out])
      clear h1 h2
      go_enter Tryz.func50, Tryz.ntmps50
      go_wp2_with fail
      go_end0
      exact .inl ⟨_, _, HG.out, rfl, HT.out, HO.out, HS.out⟩
set_option maxHeartbeats 1000000 in
theorem bg_check (g2 : Good base Q2) {P : BgP} {s : Begun} (h : Tk base g most Q2 L L2 bs B 129 s.y (P.rest s) w0 w) (ho : BgOk s) (hw : Ms.Ms.Wf (P.m s)) :
    Calls Tryz.prog 60 #[.pointer (some ⟨B, 0, none⟩)] w (Gp (bgCheck P s most L) (fun _ => .tuple #[]) (fun L' x w' => Tk base g most Q2 L' L2 bs B 129 x.y (P.rest x) w0 w' ∧ BgOk x) (fun L' w' => Cs base (PSq base g most) Q2 L' L2 bs w0 w')) := by
  have HT := Lib.hid h
  have HO := Lib.hid ho
  have HHW := Lib.hid hw
  clear h ho hw
  by_cases hc : Ms.rightM (P.m s) = true
  · have HG : Hid (bgCheck P s most L = (.ok s, L)) := Lib.hid (by unfold bgCheck; rw [if_pos hc])
    have m0 := HT.out.at 6 rfl
    have m1 := HT.out.at 7 rfl
    have m2 := HT.out.at 8 rfl
    have m3 := HT.out.at 9 rfl
    have m4 := HT.out.at 10 rfl
    have m5 := HT.out.at 11 rfl
    have m6 := HT.out.at 12 rfl
    have m7 := HT.out.at 13 rfl
    have m8 := HT.out.at 14 rfl
    have m9 := HT.out.at 15 rfl
    have m10 := HT.out.at 16 rfl
    have m11 := HT.out.at 17 rfl
    have m12 := HT.out.at 18 rfl
    have HC := Lib.hid hc
    clear hc
    go_enter Tryz.func60, Tryz.ntmps60
    go_wp2_with fail
    refine (mustBe_yes (P.m s) 1 _ HHW.out rfl HC.out).mono ?_
    rintro e' w1 ⟨rfl, hb⟩
    replace HT := Lib.hid (HT.out.below g2 hb)
    clear hb
    go_wp2_with fail
    go_end0
    exact .inl ⟨_, _, HG.out, rfl, HT.out, HO.out⟩
  · have HG : Hid (bgCheck P s most L = (.error 3, L)) := Lib.hid (by unfold bgCheck; rw [if_neg hc])
    have m0 := HT.out.at 6 rfl
    have m1 := HT.out.at 7 rfl
    have m2 := HT.out.at 8 rfl
    have m3 := HT.out.at 9 rfl
    have m4 := HT.out.at 10 rfl
    have m5 := HT.out.at 11 rfl
    have m6 := HT.out.at 12 rfl
    have m7 := HT.out.at 13 rfl
    have m8 := HT.out.at 14 rfl
    have m9 := HT.out.at 15 rfl
    have m10 := HT.out.at 16 rfl
    have m11 := HT.out.at 17 rfl
    have m12 := HT.out.at 18 rfl
    have HC := Lib.hid hc
    clear hc
    go_enter Tryz.func60, Tryz.ntmps60
    go_wp2_with fail
    refine (mustBe_no (P.m s) 1 _ HHW.out (fun q => HC.out q.2)).mono ?_
    rintro e' w1 ⟨rfl, hb⟩
    replace HT := Lib.hid (HT.out.below g2 hb)
    clear hb
    unfold Fell
    go_wp2_with fail
    exact ⟨rfl, .inr ⟨_, _, HG.out, by decide, rfl, HT.out.fall⟩⟩
set_option maxHeartbeats 1000000 in
theorem bg_mixPsk (g2 : Good base Q2) {P : BgP} {s : Begun} (h : Tk base g most Q2 L L2 bs B 129 s.y (P.rest s) w0 w) (ho : BgOk s) (hs : P.slot = 0 ∨ P.slot = 1) (hk : I64 P.p.k0 ∧ I64 P.p.k1) :
    Calls Tryz.prog 58 #[.pointer (some ⟨B, 0, none⟩)] w (Gp (bgPsk P s most L) (fun _ => .tuple #[]) (fun L' x w' => Tk base g most Q2 L' L2 bs B 129 x.y (P.rest x) w0 w' ∧ BgOk x) (fun L' w' => Cs base (PSq base g most) Q2 L' L2 bs w0 w')) := by
  have HT := Lib.hid h
  have HO := Lib.hid ho
  have HHS := Lib.hid hs
  have HHK := Lib.hid hk
  clear h ho hs hk
  rcases HHS.out with q | q
  · have HSL : Hid (P.slot = 0) := Lib.hid q
    have HGE : Hid (bgPsk P s most L = ((turnG s.y P.p.k0).to fun y => .of { s with y := y }) most L) := Lib.hid (by unfold bgPsk; rw [q]; rfl)
    clear q
    go_enter Tryz.func58, Tryz.ntmps58
    replace HT := Lib.hid (HT.out.drew g2)
    refine wp_region_held_drew (S := (fun W => W.cell? ⟨B, 15, none⟩ = some (.int .i64 0) ∧ W.cell? ⟨B, 9, none⟩ = some (.int .i64 P.p.k0))) (by kernel_rfl) (⟨(HT.out.at 10 rfl).trans (by rw [HSL.out]), HT.out.at 4 rfl⟩) (fun hHeld => ?_)
    refine tk1 0 (oi := ?o157) (v := ?v157) ?i157 ?w157 ?y157 ?r157
    case' i157 => simp only [g1, g2, g3]
    case i157 => rfl
    case w157 => kernel_rfl
    case y157 => (intro W hSw; go_simp) <;> with_reducible rfl
    try simp only [Act.put, p1, p2, p3]
    refine tk1 1 (oi := ?o158) (v := ?v158) ?i158 ?w158 ?y158 ?r158
    case' i158 => simp only [g1, g2, g3]
    case i158 => rfl
    case w158 => kernel_rfl
    case y158 => (intro W hSw; go_simp) <;> with_reducible rfl
    try simp only [Act.put, p1, p2, p3]
    refine tk1 2 (oi := ?o159) (v := ?v159) ?i159 ?w159 ?y159 ?r159
    case' i159 => simp only [g1, g2, g3]
    case i159 => rfl
    case w159 => kernel_rfl
    case y159 => (intro W hSw; go_simp) <;> with_reducible rfl
    try simp only [Act.put, p1, p2, p3]
    refine tk1 3 (oi := ?o160) (v := ?v160) ?i160 ?w160 ?y160 ?r160
    case' i160 => simp only [g1, g2, g3]
    case i160 => rfl
    case w160 => kernel_rfl
    case y160 => (intro W hSw; go_simp) <;> with_reducible rfl
    try simp only [Act.put, p1, p2, p3]
    refine tk1 4 (oi := ?o161) (v := ?v161) ?i161 ?w161 ?y161 ?r161
    case' i161 => simp only [g1, g2, g3]
    case i161 => rfl
    case w161 => kernel_rfl
    case y161 => (intro W hSw; go_simp) <;> with_reducible rfl
    try simp only [Act.put, p1, p2, p3]
    refine tk1 5 (oi := ?o162) (v := ?v162) ?i162 ?w162 ?y162 ?r162
    case' i162 => simp only [g1, g2, g3]
    case i162 => rfl
    case w162 => kernel_rfl
    case y162 => (intro W hSw; go_simp) <;> with_reducible rfl
    try simp only [Act.put, p1, p2, p3]
    refine tk1 6 (oi := ?o163) (v := ?v163) ?i163 ?w163 ?y163 ?r163
    case' i163 => simp only [g1, g2, g3]
    case i163 => rfl
    case w163 => kernel_rfl
    case y163 => (intro W hSw; go_simp) <;> with_reducible rfl
    try simp only [Act.put, p1, p2, p3]
    refine tk1 7 (oi := ?o164) (v := ?v164) ?i164 ?w164 ?y164 ?r164
    case' i164 => simp only [g1, g2, g3]
    case i164 => rfl
    case w164 => kernel_rfl
    case y164 => (intro W hSw; go_simp) <;> with_reducible rfl
    try simp only [Act.put, p1, p2, p3]
    refine tk1 8 (oi := ?o165) (v := ?v165) ?i165 ?w165 ?y165 ?r165
    case' i165 => simp only [g1, g2, g3]
    case i165 => rfl
    case w165 => kernel_rfl
    case y165 => (intro W hSw; obtain ⟨q15, q9⟩ := hSw; go_simp) <;> with_reducible rfl
    try simp only [Act.put, p1, p2, p3]
    refine tk1 9 (oi := ?o166) (v := ?v166) ?i166 ?w166 ?y166 ?r166
    case' i166 => simp only [g1, g2, g3]
    case i166 => rfl
    case w166 => kernel_rfl
    case y166 => (intro W hSw; go_simp) <;> with_reducible rfl
    try simp only [Act.put, p1, p2, p3]
    refine tk1 10 (oi := ?o167) (v := ?v167) ?i167 ?w167 ?y167 ?r167
    case' i167 => simp only [g1, g2, g3]
    case i167 => rfl
    case w167 => kernel_rfl
    case y167 => (intro W hSw; go_simp) <;> with_reducible rfl
    try simp only [Act.put, p1, p2, p3]
    refine tk1 11 (oi := ?o168) (v := ?v168) ?i168 ?w168 ?y168 ?r168
    case' i168 => simp only [g1, g2, g3]
    case i168 => rfl
    case w168 => kernel_rfl
    case y168 => (intro W hSw; go_simp) <;> with_reducible rfl
    try simp only [Act.put, p1, p2, p3]
    refine tk1 12 (oi := ?o169) (v := ?v169) ?i169 ?w169 ?y169 ?r169
    case' i169 => simp only [g1, g2, g3]
    case i169 => rfl
    case w169 => kernel_rfl
    case y169 => (intro W hSw; go_simp) <;> with_reducible rfl
    try simp only [Act.put, p1, p2, p3]
    refine tk1 13 (oi := ?o170) (v := ?v170) ?i170 ?w170 ?y170 ?r170
    case' i170 => simp only [g1, g2, g3]
    case i170 => rfl
    case w170 => kernel_rfl
    case y170 => (intro W hSw; obtain ⟨q15, q9⟩ := hSw; go_simp) <;> with_reducible rfl
    try simp only [Act.put, p1, p2, p3]
    refine wpAnyH_ready (rs := [14]) (by kernel_rfl) (by simp) ?_
    refine (AllReadyH.cons (o := ?o171_0) ?i171_0 (fun K' hK => ?g171_0) AllReadyH.nil)
    case' i171_0 => simp only [g1, g2, g3]
    case i171_0 => rfl
    go_simp
    go_at_call 122
    refine (tk_mix g2 HT.out HHK.out.1).mono ?_
    rintro e' W1 (⟨z, ME1, hm, rfl, hT⟩ | ⟨c, ME1, hm, hc, rfl, hT⟩)
    · have E1 := Lib.hid hm
      have HTold := HT
      replace HT := Lib.hid hT
      clear hm hT
      go_wp2_with fail
      refine hK.out _ _ (⟨(HT.out.at 10 rfl).trans (by rw [HSL.out]), HT.out.at 4 rfl⟩) (fun hHeld => ?_)
      clear hK K'
      try simp only [Act.put, p1, p2, p3]
      refine wpAnyH_done (by kernel_rfl) ?_ _
      go_wp2_with fail
      go_end0
      exact .inl ⟨{ s with y := z }, _, (HGE.out).trans ((G.to_ok E1.out).trans (rfl)), rfl, HT.out, HO.out⟩
    · unfold Fell
      go_wp2_with fail
      exact ⟨rfl, .inr ⟨_, _, (HGE.out).trans (G.to_bad hm), hc, rfl, hT⟩⟩
  · have HSL : Hid (P.slot = 1) := Lib.hid q
    have HGE : Hid (bgPsk P s most L = ((turnG s.y P.p.k1).to fun y => .of { s with y := y }) most L) := Lib.hid (by unfold bgPsk; rw [q]; rfl)
    clear q
    go_enter Tryz.func58, Tryz.ntmps58
    replace HT := Lib.hid (HT.out.drew g2)
    refine wp_region_held_drew (S := (fun W => W.cell? ⟨B, 15, none⟩ = some (.int .i64 1) ∧ W.cell? ⟨B, 10, none⟩ = some (.int .i64 P.p.k1))) (by kernel_rfl) (⟨(HT.out.at 10 rfl).trans (by rw [HSL.out]), HT.out.at 5 rfl⟩) (fun hHeld => ?_)
    refine tk1 0 (oi := ?o172) (v := ?v172) ?i172 ?w172 ?y172 ?r172
    case' i172 => simp only [g1, g2, g3]
    case i172 => rfl
    case w172 => kernel_rfl
    case y172 => (intro W hSw; go_simp) <;> with_reducible rfl
    try simp only [Act.put, p1, p2, p3]
    refine tk1 1 (oi := ?o173) (v := ?v173) ?i173 ?w173 ?y173 ?r173
    case' i173 => simp only [g1, g2, g3]
    case i173 => rfl
    case w173 => kernel_rfl
    case y173 => (intro W hSw; go_simp) <;> with_reducible rfl
    try simp only [Act.put, p1, p2, p3]
    refine tk1 2 (oi := ?o174) (v := ?v174) ?i174 ?w174 ?y174 ?r174
    case' i174 => simp only [g1, g2, g3]
    case i174 => rfl
    case w174 => kernel_rfl
    case y174 => (intro W hSw; go_simp) <;> with_reducible rfl
    try simp only [Act.put, p1, p2, p3]
    refine tk1 3 (oi := ?o175) (v := ?v175) ?i175 ?w175 ?y175 ?r175
    case' i175 => simp only [g1, g2, g3]
    case i175 => rfl
    case w175 => kernel_rfl
    case y175 => (intro W hSw; go_simp) <;> with_reducible rfl
    try simp only [Act.put, p1, p2, p3]
    refine tk1 4 (oi := ?o176) (v := ?v176) ?i176 ?w176 ?y176 ?r176
    case' i176 => simp only [g1, g2, g3]
    case i176 => rfl
    case w176 => kernel_rfl
    case y176 => (intro W hSw; go_simp) <;> with_reducible rfl
    try simp only [Act.put, p1, p2, p3]
    refine tk1 5 (oi := ?o177) (v := ?v177) ?i177 ?w177 ?y177 ?r177
    case' i177 => simp only [g1, g2, g3]
    case i177 => rfl
    case w177 => kernel_rfl
    case y177 => (intro W hSw; go_simp) <;> with_reducible rfl
    try simp only [Act.put, p1, p2, p3]
    refine tk1 6 (oi := ?o178) (v := ?v178) ?i178 ?w178 ?y178 ?r178
    case' i178 => simp only [g1, g2, g3]
    case i178 => rfl
    case w178 => kernel_rfl
    case y178 => (intro W hSw; go_simp) <;> with_reducible rfl
    try simp only [Act.put, p1, p2, p3]
    refine tk1 7 (oi := ?o179) (v := ?v179) ?i179 ?w179 ?y179 ?r179
    case' i179 => simp only [g1, g2, g3]
    case i179 => rfl
    case w179 => kernel_rfl
    case y179 => (intro W hSw; go_simp) <;> with_reducible rfl
    try simp only [Act.put, p1, p2, p3]
    refine tk1 8 (oi := ?o180) (v := ?v180) ?i180 ?w180 ?y180 ?r180
    case' i180 => simp only [g1, g2, g3]
    case i180 => rfl
    case w180 => kernel_rfl
    case y180 => (intro W hSw; obtain ⟨q15, q9⟩ := hSw; go_simp) <;> with_reducible rfl
    try simp only [Act.put, p1, p2, p3]
    refine tk1 9 (oi := ?o181) (v := ?v181) ?i181 ?w181 ?y181 ?r181
    case' i181 => simp only [g1, g2, g3]
    case i181 => rfl
    case w181 => kernel_rfl
    case y181 => (intro W hSw; go_simp) <;> with_reducible rfl
    try simp only [Act.put, p1, p2, p3]
    refine tk1 10 (oi := ?o182) (v := ?v182) ?i182 ?w182 ?y182 ?r182
    case' i182 => simp only [g1, g2, g3]
    case i182 => rfl
    case w182 => kernel_rfl
    case y182 => (intro W hSw; go_simp) <;> with_reducible rfl
    try simp only [Act.put, p1, p2, p3]
    refine tk1 11 (oi := ?o183) (v := ?v183) ?i183 ?w183 ?y183 ?r183
    case' i183 => simp only [g1, g2, g3]
    case i183 => rfl
    case w183 => kernel_rfl
    case y183 => (intro W hSw; go_simp) <;> with_reducible rfl
    try simp only [Act.put, p1, p2, p3]
    refine tk1 12 (oi := ?o184) (v := ?v184) ?i184 ?w184 ?y184 ?r184
    case' i184 => simp only [g1, g2, g3]
    case i184 => rfl
    case w184 => kernel_rfl
    case y184 => (intro W hSw; go_simp) <;> with_reducible rfl
    try simp only [Act.put, p1, p2, p3]
    refine tk1 13 (oi := ?o185) (v := ?v185) ?i185 ?w185 ?y185 ?r185
    case' i185 => simp only [g1, g2, g3]
    case i185 => rfl
    case w185 => kernel_rfl
    case y185 => (intro W hSw; obtain ⟨q15, q9⟩ := hSw; go_simp) <;> with_reducible rfl
    try simp only [Act.put, p1, p2, p3]
    refine wpAnyH_ready (rs := [14]) (by kernel_rfl) (by simp) ?_
    refine (AllReadyH.cons (o := ?o186_0) ?i186_0 (fun K' hK => ?g186_0) AllReadyH.nil)
    case' i186_0 => simp only [g1, g2, g3]
    case i186_0 => rfl
    go_simp
    go_at_call 122
    refine (tk_mix g2 HT.out HHK.out.2).mono ?_
    rintro e' W1 (⟨z, ME1, hm, rfl, hT⟩ | ⟨c, ME1, hm, hc, rfl, hT⟩)
    · have E1 := Lib.hid hm
      have HTold := HT
      replace HT := Lib.hid hT
      clear hm hT
      go_wp2_with fail
      refine hK.out _ _ (⟨(HT.out.at 10 rfl).trans (by rw [HSL.out]), HT.out.at 5 rfl⟩) (fun hHeld => ?_)
      clear hK K'
      try simp only [Act.put, p1, p2, p3]
      refine wpAnyH_done (by kernel_rfl) ?_ _
      go_wp2_with fail
      go_end0
      exact .inl ⟨{ s with y := z }, _, (HGE.out).trans ((G.to_ok E1.out).trans (rfl)), rfl, HT.out, HO.out⟩
    · unfold Fell
      go_wp2_with fail
      exact ⟨rfl, .inr ⟨_, _, (HGE.out).trans (G.to_bad hm), hc, rfl, hT⟩⟩
end
end Go.Proofs.YtgeonppckeiceaaGreatDoor
namespace Go.Proofs.YtgeonppckeiceaaGreatDoor
open Go.RowKit
set_option linter.unusedVariables false
set_option linter.unusedSimpArgs false
set_option maxRecDepth 20000
section
variable {base g : Nat} {most : Int} {Q2 : (Nat → Prop) → List Tm → World → Prop} {L L' L2 : List Tm} {bs : List (Nat × Obj)} {w0 w : World}
theorem Cs.two (g1 : Good base (PSq base g most)) (g2 : Good base Q2) (h : Cs base (PSq base g most) Q2 L L2 bs w0 w) (cs ds : Array Value) (t u : TypeId) :
    Cs base (PSq base g most) Q2 L L2 ((w.heap.size + 1, (.cells ds u (0, 0) : Obj)) :: (w.heap.size, (.cells cs t (0, 0) : Obj)) :: bs) w0 ((w.alloc (.cells cs t : Obj)).alloc (.cells ds u : Obj)) := by
  have h1 := (h.box g1 g2 cs t).box g1 g2 ds u
  have e : (w.alloc (.cells cs t : Obj)).heap.size = w.heap.size + 1 := by simp
  rw [e] at h1
  exact h1
/-- The second box is written, both are left behind. -/
theorem Cs.leave {b : Nat} {o1 o2 : Obj} {w' : World} (g2 : Good base Q2) (h : Cs base (PSq base g most) Q2 L L2 ((b + 1, o2) :: (b, o1) :: bs) w0 w) (hb : base ≤ b) (hn : ∀ o, (b + 1, o) ∉ bs) (hc : Chg (· = b + 1) w w') : Cs base (PSq base g most) Q2 L L2 bs w0 w' := by
  refine h.set (PSq.good base g most) g2 (· = b + 1) (fun k q => ?_) hc (fun x q => ⟨List.mem_cons_of_mem _ (List.mem_cons_of_mem _ q), fun e => hn x.2 ?_⟩)
  · subst q
    exact ⟨by omega, o2, by simp⟩
  · rw [← show x.1 = b + 1 from e]
    exact q
set_option maxHeartbeats 1000000 in
theorem Cs.hpub (g2 : Good base Q2) (h : Cs base (PSq base g most) Q2 L L2 bs w0 w) {x y a b e : Int} (hx : I64 x) (hy : I64 y) (hf : hPublics most L (x, y) = ((a, b), e, L')) :
    Calls Tryz.prog 14 #[.pointer (some ⟨g, 0, none⟩), .agg #[.int .i64 x, .int .i64 y]] w fun e' w' => e' = .returned (.tuple #[.agg #[.int .i64 a, .int .i64 b], .int .i64 e]) ∧ Cs base (PSq base g most) Q2 L' L2 bs w0 w' := by
  have gP := PSq.good base g most
  have HB := Lib.hid h.pair.base_le
  have HN : Hid (∀ o, (w.heap.size + 1, o) ∉ bs) := Lib.hid (fun o q => by have := h.pair.klt _ ⟨o, q⟩; omega)
  have HC := Lib.hid (h.two gP g2 #[.int .i64 x, .int .i64 y] #[.int .i64 0, .int .i64 0] 33 33)
  have HX := Lib.hid hx
  have HY := Lib.hid hy
  obtain ⟨p, e1, L1, h1⟩ : ∃ a e M, putF L most (pubT x) = (a, e, M) := ⟨_, _, _, rfl⟩
  have H1 := Lib.hid h1
  have HS1 := Lib.hid (put_sd h.sound h1)
  clear h hx hy
  by_cases hz : e1 = 0
  · subst hz
    obtain ⟨q, e2, L2', h2⟩ : ∃ a e M, putF L1 most (kpubT y) = (a, e, M) := ⟨_, _, _, rfl⟩
    have H2 := Lib.hid h2
    have HS2 := Lib.hid (put_sd HS1.out h2)
    by_cases hz2 : e2 = 0
    · subst hz2
      have hw : hPublics most L (x, y) = ((p, q), 0, L2') := by
        unfold hPublics publicsG
        rw [G.to_ok (putG_ok h1), G.to_ok (putG_ok h2)]
        rfl
      rw [hw] at hf
      injection hf with q1 q2
      injection q1 with q3 q4
      injection q2 with q5 q6
      subst q3 q4 q5 q6
      clear hw h1 h2
      have r0 := cell_of_row _ _ 0 _ _ _ (HC.out.kept w.heap.size _ (List.mem_cons_of_mem _ List.mem_cons_self))
      go_enter Tryz.func14, Tryz.ntmps14
      go_wp2_with fail
      refine (HC.out.pair.publicP g2 HX.out H1.out).mono ?_
      rintro e' w1 ⟨rfl, hp, hk⟩
      replace HC := Lib.hid (HC.out.step hp hk HS1.out)
      clear hp hk
      have r1 := cell_of_row w1 _ 1 _ _ _ (HC.out.kept w.heap.size _ (List.mem_cons_of_mem _ List.mem_cons_self))
      simp at r1
      go_wp2_with fail
      refine (HC.out.pair.kpublicP g2 HY.out H2.out).mono ?_
      rintro e' w2 ⟨rfl, hp, hk⟩
      replace HC := Lib.hid (HC.out.step hp hk HS2.out)
      clear hp hk r1
      have z0 := cell_of_row w2 _ 0 _ _ _ (HC.out.kept (w.heap.size + 1) _ List.mem_cons_self)
      have z1 := cell_of_row w2 _ 1 _ _ _ (HC.out.kept (w.heap.size + 1) _ List.mem_cons_self)
      have f0 := frz_of_row 0 (HC.out.kept (w.heap.size + 1) _ List.mem_cons_self)
      have f1 := frz_of_row 1 (HC.out.kept (w.heap.size + 1) _ List.mem_cons_self)
      simp at z0 z1
      go_wp2_with fail
      exact bodyPost_ret (v := .tuple #[.agg #[.int .i64 p, .int .i64 q], .int .i64 0]) (by simp [results, Tryz.results14, go_sem, z0, z1]) rfl ⟨rfl, HC.out.leave g2 HB.out HN.out ((chg_one _ _ _ _).trans (chg_one _ _ _ _))⟩
    · have hne : (e2 != 0) = true := by simpa using hz2
      have hw : hPublics most L (x, y) = ((0, 0), e2, L2') := by
        unfold hPublics publicsG
        rw [G.to_ok (putG_ok h1), G.to_bad (putG_no h2 hz2)]
      rw [hw] at hf
      injection hf with q1 q2
      injection q1 with q3 q4
      injection q2 with q5 q6
      subst q3 q4 q5 q6
      clear hw h1 h2 hz2
      go_enter Tryz.func14, Tryz.ntmps14
      go_wp2_with fail
      refine (HC.out.pair.publicP g2 HX.out H1.out).mono ?_
      rintro e' w1 ⟨rfl, hp, hk⟩
      replace HC := Lib.hid (HC.out.step hp hk HS1.out)
      clear hp hk
      have r1 := cell_of_row w1 _ 1 _ _ _ (HC.out.kept w.heap.size _ (List.mem_cons_of_mem _ List.mem_cons_self))
      simp at r1
      go_wp2_with fail
      refine (HC.out.pair.kpublicP g2 HY.out H2.out).mono ?_
      rintro e' w2 ⟨rfl, hp, hk⟩
      replace HC := Lib.hid (HC.out.step hp hk HS2.out)
      clear hp hk r1
      have z0 := cell_of_row w2 _ 0 _ _ _ (HC.out.kept (w.heap.size + 1) _ List.mem_cons_self)
      have z1 := cell_of_row w2 _ 1 _ _ _ (HC.out.kept (w.heap.size + 1) _ List.mem_cons_self)
      have f0 := frz_of_row 0 (HC.out.kept (w.heap.size + 1) _ List.mem_cons_self)
      have f1 := frz_of_row 1 (HC.out.kept (w.heap.size + 1) _ List.mem_cons_self)
      simp at z0 z1
      go_wp2_with fail
      exact bodyPost_ret (v := .tuple #[.agg #[.int .i64 0, .int .i64 0], .int .i64 e2]) (by simp [results, Tryz.results14, go_sem, z0, z1]) rfl ⟨rfl, HC.out.leave g2 HB.out HN.out ((chg_one _ _ _ _).trans (chg_one _ _ _ _))⟩
  · have hne : (e1 != 0) = true := by simpa using hz
    have hw : hPublics most L (x, y) = ((0, 0), e1, L1) := by
      unfold hPublics publicsG
      rw [G.to_bad (putG_no h1 hz)]
    rw [hw] at hf
    injection hf with q1 q2
    injection q1 with q3 q4
    injection q2 with q5 q6
    subst q3 q4 q5 q6
    clear hw h1 hz
    go_enter Tryz.func14, Tryz.ntmps14
    go_wp2_with fail
    refine (HC.out.pair.publicP g2 HX.out H1.out).mono ?_
    rintro e' w1 ⟨rfl, hp, hk⟩
    replace HC := Lib.hid (HC.out.step hp hk HS1.out)
    clear hp hk
    have z0 := cell_of_row w1 _ 0 _ _ _ (HC.out.kept (w.heap.size + 1) _ List.mem_cons_self)
    have z1 := cell_of_row w1 _ 1 _ _ _ (HC.out.kept (w.heap.size + 1) _ List.mem_cons_self)
    have f0 := frz_of_row 0 (HC.out.kept (w.heap.size + 1) _ List.mem_cons_self)
    have f1 := frz_of_row 1 (HC.out.kept (w.heap.size + 1) _ List.mem_cons_self)
    simp at z0 z1
    go_wp2_with fail
    exact bodyPost_ret (v := .tuple #[.agg #[.int .i64 0, .int .i64 0], .int .i64 e1]) (by simp [results, Tryz.results14, go_sem, z0, z1]) rfl ⟨rfl, HC.out.leave g2 HB.out HN.out ((chg_one _ _ _ _).trans (chg_one _ _ _ _))⟩
end
end Go.Proofs.YtgeonppckeiceaaGreatDoor
namespace Go.Proofs.YtgeonppckeiceaaGreatDoor
open Go.RowKit
set_option linter.unusedVariables false
set_option linter.unusedSimpArgs false
set_option maxRecDepth 20000
/-- What the closure needs: a box that holds where the call's own box lies, and the public key in that one. -/
def Cap (c B : Nat) (pub : Int) (w : World) : Prop := w.cell? ⟨c, 0, none⟩ = some (.pointer (some ⟨B, 0, none⟩)) ∧ w.cell? ⟨B, 31, none⟩ = some (.int .i64 pub)
theorem Cap.below {c B : Nat} {pub : Int} {w w' : World} (h : Cap c B pub w) (hb : Below w.heap.size w w') : Cap c B pub w' :=
  ⟨(hb.cell (block_lt_of_cell h.1)).trans h.1, (hb.cell (block_lt_of_cell h.2)).trans h.2⟩
theorem RowP.below {w w' : World} {a : Option Addr} {ps : List Pr} (h : RowP w a ps) (hb : Below w.heap.size w w') : RowP w' a ps := by
  obtain ⟨b, off, hr⟩ := h
  refine ⟨b, off, fun j hj => ?_⟩
  obtain ⟨h0, h1, h2, h3, h4⟩ := hr j hj
  exact ⟨h0, (hb.cell (block_lt_of_cell h1)).trans h1, (hb.cell (block_lt_of_cell h2)).trans h2, (hb.cell (block_lt_of_cell h3)).trans h3, (hb.cell (block_lt_of_cell h4)).trans h4⟩
set_option maxHeartbeats 1000000 in
theorem is_pub {c B : Nat} {pub : Int} (dh kem k0 k1 : Int) (u : World) (h : Cap c B pub u) :
    Calls Tryz.prog 140 #[.agg #[.int .i64 dh, .int .i64 kem, .int .i64 k0, .int .i64 k1], .pointer (some ⟨c, 0, none⟩)] u fun e w' => e = .returned (.bool (dh == pub)) ∧ Below u.heap.size u w' := by
  have hb := Lib.hid (below_alloc u (.cells #[.int .i64 dh, .int .i64 kem, .int .i64 k0, .int .i64 k1] 43 : Obj))
  have d := h.below hb.out
  have l1 := block_lt_of_cell h.1
  have l2 := block_lt_of_cell h.2
  have d1 := d.1
  have d2 := d.2
  have HU := Lib.hid h
  clear h d
  go_enter Tryz.func140, Tryz.ntmps140
  go_wp2
  go_quiet (fail)
  go_wp2
  go_ret
  exact ⟨rfl, hb.out.trans ((drewN_below _ _).mono (by simp))⟩
def idxP (pub : Int) (ps : List Pr) : Int := if ps.findIdx (fun p => p.dh == pub) < ps.length then ps.findIdx (fun p => p.dh == pub) else -1
theorem idxP_here {pub : Int} {ps : List Pr} {k : Nat} (hk : k < ps.length) (hb : ∀ x, x ∈ ps.take k → (x.dh == pub) = false) (h : ((ps.getD k zeroPr).dh == pub) = true) : ps.findIdx (fun p => p.dh == pub) = k := by
  have e : ps.getD k zeroPr = ps[k] := by simp [List.getD, hk]
  rw [e] at h
  rw [List.findIdx_eq hk]
  refine ⟨h, fun j hj => ?_⟩
  have := hb (ps[j]'(by omega)) (by rw [List.mem_take_iff_getElem]; exact ⟨j, by omega, rfl⟩)
  simpa using this
theorem idxP_none {pub : Int} {ps : List Pr} (hb : ∀ x, x ∈ ps → (x.dh == pub) = false) : ps.findIdx (fun p => p.dh == pub) = ps.length := by
  rw [List.findIdx_eq_length]
  exact hb
theorem who_idx (pub : Int) (ps : List Pr) : (∃ i : Nat, whoF (ps.map Pr.dh) pub = some i ∧ idxP pub ps = (i : Int) ∧ i < ps.length) ∨ (whoF (ps.map Pr.dh) pub = none ∧ idxP pub ps = -1) := by
  have e : (ps.map Pr.dh).findIdx (· == pub) = ps.findIdx (fun p => p.dh == pub) := by
    rw [List.findIdx_map]
    rfl
  unfold whoF idxP
  rw [e, List.length_map]
  by_cases h : ps.findIdx (fun p => p.dh == pub) < ps.length
  · rw [if_pos h, if_pos h]
    exact .inl ⟨_, rfl, rfl, h⟩
  · rw [if_neg h, if_neg h]
    exact .inr ⟨rfl, rfl⟩
set_option maxHeartbeats 4000000 in
set_option maxRecDepth 100000 in
theorem index_p {c B : Nat} {pub : Int} (a : Option Addr) (n cap : Nat) (ps : List Pr) (w : World) (hn : n = ps.length) (hn2 : n ≤ 1000000) (h : RowP w a ps) (ho : Cap c B pub w) :
    Calls Tryz.prog 139 #[.slice a n cap, .func (.func 140) #[] #[.pointer (some ⟨c, 0, none⟩)]] w fun e w' => e = .returned (.int .i64 (idxP pub ps)) ∧ Below w.heap.size w w' := by
  have eg : ∀ (args : Array Value) (w : World), (callFunc 140 args).run Tryz.prog w = .ok (.enter 140 args) w := fun args w => enters_of Tryz.func140 (by kernel_rfl) rfl args w
  have HR := Lib.hid h
  have HN := Lib.hid hn
  have HO := Lib.hid ho
  have hn63 : n ≤ 9223372036854775807 := by omega
  clear h hn ho
  go_enter Tryz.func139, Tryz.ntmps139
  go_wp2_with fail
  go_loopw [8] (fun i wr => ∃ (k : Nat), k ≤ n ∧ i = .int .i64 k ∧ Hid (∀ x, x ∈ ps.take k → (x.dh == pub) = false) ∧ Hid (Below w.heap.size w wr)) (fun i _ => n - (intOf i).toNat)
  case atStart => exact ⟨0, Nat.zero_le _, rfl, Lib.hid (by simp), Lib.hid (Below.refl _ _)⟩
  case round =>
    obtain ⟨k, hk, rfl, HX, HB⟩ := hrel
    by_cases hlt : k < n
    · have hlt' : (k : Int) < (n : Int) := by omega
      obtain ⟨b1, f1, hq⟩ := HR.out.below HB.out
      obtain ⟨rfl, c0, c1, c2, c3⟩ := hq k (by rw [← HN.out]; exact hlt)
      clear hq
      have HI : Hid (((ps.getD k zeroPr).dh == pub) = true → ps.findIdx (fun p => p.dh == pub) = k) := Lib.hid (fun q => idxP_here (by rw [← HN.out]; exact hlt) HX.out q)
      have HT1 : Hid (ps.take (k + 1) = ps.take k ++ [ps.getD k zeroPr]) := Lib.hid (by
        have hk2 : k < ps.length := by rw [← HN.out]; exact hlt
        rw [List.take_succ_eq_append_getElem hk2]; simp [List.getD, hk2])
      generalize ps.getD k zeroPr = z at c0 c1 c2 c3 HI HT1
      obtain ⟨zd, zk, z0, z1⟩ := z
      dsimp only at c0 c1 c2 c3 HI HT1
      have HK := Lib.hid hlt
      have HOr : Hid (Cap c B pub wr) := Lib.hid (HO.out.below HB.out)
      clear hlt hk
      cases hp : (zd == pub) with
      | true =>
        have HE : Hid (idxP pub ps = (k : Int)) := Lib.hid (by unfold idxP; rw [HI.out hp, if_pos (by have := HK.out; have := HN.out; omega)])
        have HP := Lib.hid hp
        clear hp
        go_wp2_with fail
        refine (is_pub zd zk z0 z1 _ HOr.out).mono ?_
        rintro e w2 ⟨rfl, hb2⟩
        have HB2 : Hid (Below w.heap.size w w2) := Lib.hid (HB.out.trans (hb2.mono HB.out.size))
        rw [HP.out]
        clear hb2
        go_wp2
        go_ret
        exact ⟨by rw [HE.out]; rfl, HB2.out⟩
      | false =>
        have HX2 : Hid (∀ x, x ∈ ps.take (k + 1) → (x.dh == pub) = false) := Lib.hid (fun x hx => by
          rw [HT1.out] at hx
          rcases List.mem_append.1 hx with q | q
          · exact HX.out x q
          · rw [List.mem_singleton.1 q]; exact hp)
        have HP := Lib.hid hp
        clear hp
        go_wp2_with fail
        refine (is_pub zd zk z0 z1 _ HOr.out).mono ?_
        rintro e w2 ⟨rfl, hb2⟩
        have HB2 : Hid (Below w.heap.size w w2) := Lib.hid (HB.out.trans (hb2.mono HB.out.size))
        rw [HP.out]
        clear hb2
        go_wp2_with fail
        go_roundw
        case rel => exact ⟨k + 1, by have := HK.out; omega, by go_num, HX2, HB2⟩
        case measure => have := HK.out; simp [intOf]; omega
    · obtain rfl : k = n := by omega
      have HE : Hid (idxP pub ps = -1) := Lib.hid (by
        have e : ps.take k = ps := by rw [List.take_of_length_le (by rw [← HN.out]; exact Nat.le_refl _)]
        have hx := HX.out
        rw [e] at hx
        unfold idxP
        rw [idxP_none hx, if_neg (by omega)])
      clear hlt
      go_wp2
      go_ret
      exact ⟨by rw [HE.out]; rfl, HB.out⟩
end Go.Proofs.YtgeonppckeiceaaGreatDoor
