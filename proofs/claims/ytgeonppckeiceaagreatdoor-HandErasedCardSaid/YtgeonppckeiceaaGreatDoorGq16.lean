/- What begins, is said, mixed in, and split: contracts of the program's and the document's calls of layer 7, as functions of a store's terms. -/
/- The step that says. -/
/- The program's Seal, over its steps in turn. -/
/- The program's Open, over its steps in turn. -/
import Derived.Test.YtgeonppckeiceaaGreatDoorGq14
import Derived.Test.YtgeonppckeiceaaGreatDoorGq04
import Derived.Test.YtgeonppckeiceaaGreatDoorGq15
import Derived.Deep.RegionWith
namespace Go.Proofs.YtgeonppckeiceaaGreatDoor
open Go.RowKit
set_option linter.unusedVariables false
set_option linter.unusedSimpArgs false
section
variable {base g : Nat} {most : Int} {Q2 : (Nat → Prop) → List Tm → World → Prop} {L L2 : List Tm} {K : Nat → Prop} {w0 w : World}
set_option maxHeartbeats 400000 in
theorem Pair.textOfP {L' : List Tm} {S : ByteArray} {a e : Int} (g2 : Good base Q2) (h : Pair base (PSq base g most) Q2 L L2 K w0 w) (hS : S.size ≤ maxLen) (hf : putF L most (textT S) = (a, e, L')) :
  Calls Tryz.prog 198 #[.pointer (some ⟨g, 0, none⟩), .string S] w (TwoK (.int .i64 a) (.int .i64 e) (Pair base (PSq base g most) Q2 L' L2 K w0) K w) := by
 have H := Lib.hid h
 have HS := Lib.hid hS
 have HF := Lib.hid hf
 clear h hS hf
 go_enter Tryz.func198, Tryz.ntmps198
 go_wp2_with fail
 refine (H.out.putP g2 (textT S) (text_wf HS.out) HF.out).mono ?_
 rintro e w1 ⟨rfl, h1, hk⟩
 have H1 := Lib.hid h1
 have HK := Lib.hid hk
 clear h1 hk H HF
 go_wp2_with fail
 go_ret2
 exact ⟨rfl, H1.out, HK.out⟩
set_option maxHeartbeats 1000000 in
theorem Pair.beginP {L' : List Tm} {S : ByteArray} {y' : Sy} {e : Int} (g2 : Good base Q2) (h : Pair base (PSq base g most) Q2 L L2 K w0 w) (hS : S.size ≤ maxLen) (hf : beginF L most S = (y', e, L')) :
  Calls Tryz.prog 167 #[.pointer (some ⟨g, 0, none⟩), .string S] w (TwoK y'.v (.int .i64 e) (Pair base (PSq base g most) Q2 L' L2 K w0) K w) := by
 have gS := PSq.good base g most
 obtain ⟨a, f, M, q⟩ : ∃ a f M, putF L most (textT S) = (a, f, M) := ⟨_, _, _, rfl⟩
 obtain ⟨hb, hr, hk⟩ := h.box1 gS g2 #[.int .i64 0, .int .i64 0, .int .i64 0, .int .u64 0] 45
 have HB := Lib.hid hb
 have HR := Lib.hid hr
 have HK0 := Lib.hid hk
 have HKl := Lib.hid h.klt
 have HBL := Lib.hid h.base_le
 have HS := Lib.hid hS
 have HF := Lib.hid hf
 have HQ := Lib.hid q
 clear h hS hf q hb hr hk
 by_cases hf0 : f = 0
 ·subst hf0
  have hw := HF.out
  rw [begin_yes HQ.out] at hw
  injection hw with e1 hw
  injection hw with e2 e3
  subst e1 e2 e3
  clear HF
  go_enter Tryz.func167, Tryz.ntmps167
  go_wp2_with fail
  refine (HB.out.textOfP g2 HS.out HQ.out).mono ?_
  rintro e w1 ⟨rfl, hp, hk⟩
  have H1 := Lib.hid hp
  have h1 := (hk _ (.inr rfl)).trans HR.out
  have HK1 := Lib.hid (show ∀ k, K k → w1.heap[k]? = w.heap[k]? from fun k q => (hk k (.inl q)).trans (HK0.out k q))
  have z0 := cell_of_row w1 _ 0 _ _ _ h1
  have z1 := cell_of_row w1 _ 1 _ _ _ h1
  have z2 := cell_of_row w1 _ 2 _ _ _ h1
  have z3 := cell_of_row w1 _ 3 _ _ _ h1
  simp at z0 z1 z2 z3
  have fz0 := frz_of_row 0 h1
  have fz1 := frz_of_row 1 h1
  have fz2 := frz_of_row 2 h1
  have fz3 := frz_of_row 3 h1
  clear hp hk h1 HB
  go_wp2_with fail
  exact bodyPost_ret (v := .tuple #[.agg #[.int .i64 a, .int .i64 0, .int .i64 a, .int .u64 0], .int .i64 0]) (by simp [results, Tryz.results167, go_sem, zeroY, Sy.v, z0, z1, z2, z3]) rfl
   ⟨rfl, (H1.out.set4 gS g2 (.inr rfl) HBL.out 0 _ _ _ _).less (fun k q => .inl q), fun k q => (set4_other _ _ _ _ _ _ _ _ (by have := HKl.out k q; omega)).trans (HK1.out k q)⟩
 ·have hne : (f != 0) = true := by simpa using hf0
  have HE := Lib.hid hf0
  clear hf0
  have hw := HF.out
  rw [begin_no HQ.out HE.out] at hw
  injection hw with e1 hw
  injection hw with e2 e3
  subst e1 e2 e3
  clear HF
  go_enter Tryz.func167, Tryz.ntmps167
  go_wp2_with fail
  refine (HB.out.textOfP g2 HS.out HQ.out).mono ?_
  rintro e w1 ⟨rfl, hp, hk⟩
  have H1 := Lib.hid hp
  have h1 := (hk _ (.inr rfl)).trans HR.out
  have HK1 := Lib.hid (show ∀ k, K k → w1.heap[k]? = w.heap[k]? from fun k q => (hk k (.inl q)).trans (HK0.out k q))
  have z0 := cell_of_row w1 _ 0 _ _ _ h1
  have z1 := cell_of_row w1 _ 1 _ _ _ h1
  have z2 := cell_of_row w1 _ 2 _ _ _ h1
  have z3 := cell_of_row w1 _ 3 _ _ _ h1
  simp at z0 z1 z2 z3
  have fz0 := frz_of_row 0 h1
  have fz1 := frz_of_row 1 h1
  have fz2 := frz_of_row 2 h1
  have fz3 := frz_of_row 3 h1
  clear hp hk h1 HB
  go_wp2_with fail
  exact bodyPost_ret (v := .tuple #[zeroY.v, .int .i64 f]) (by simp [results, Tryz.results167, go_sem, zeroY, Sy.v, z0, z1, z2, z3]) rfl
   ⟨rfl, (H1.out.set4 gS g2 (.inr rfl) HBL.out 0 _ _ _ _).less (fun k q => .inl q), fun k q => (set4_other _ _ _ _ _ _ _ _ (by have := HKl.out k q; omega)).trans (HK1.out k q)⟩
set_option maxHeartbeats 1000000 in
theorem Pair.sayP {L' : List Tm} {y y' : Sy} {e x : Int} (g2 : Good base Q2) (h : Pair base (PSq base g most) Q2 L L2 K w0 w) (hy : y.Wf) (hx : I64 x) (hf : sayF L most y x = (y', e, L')) :
  Calls Tryz.prog 180 #[y.v, .pointer (some ⟨g, 0, none⟩), .int .i64 x] w (TwoK y'.v (.int .i64 e) (Pair base (PSq base g most) Q2 L' L2 K w0) K w) := by
 have gS := PSq.good base g most
 obtain ⟨yc, yk, yh, yn⟩ := y
 obtain ⟨a, f, M, q⟩ : ∃ a f M, putF L most (hashT yh x) = (a, f, M) := ⟨_, _, _, rfl⟩
 obtain ⟨hb, hr0, hr1, hk⟩ := h.box2 gS g2 #[.int .i64 yc, .int .i64 yk, .int .i64 yh, .int .u64 yn] #[.int .i64 0, .int .i64 0, .int .i64 0, .int .u64 0] 45 45
 have HB := Lib.hid hb
 have HR0 := Lib.hid hr0
 have HR1 := Lib.hid hr1
 have HK0 := Lib.hid hk
 have HKl := Lib.hid h.klt
 have HBL := Lib.hid h.base_le
 have HC : Hid (I64 yc) := Lib.hid hy.ck
 have HH : Hid (I64 yh) := Lib.hid hy.h
 have HX := Lib.hid hx
 have HF := Lib.hid hf
 have HQ := Lib.hid q
 unfold Sy.v
 clear h hy hx hf q hb hr0 hr1 hk
 by_cases hf0 : f = 0
 ·subst hf0
  have hw := HF.out
  rw [say_yes (y := ⟨yc, yk, yh, yn⟩) HQ.out] at hw
  injection hw with e1 hw
  injection hw with e2 e3
  subst e1 e2 e3
  clear HF
  go_enter Tryz.func180, Tryz.ntmps180
  go_wp2_with fail
  refine (HB.out.hashP g2 HH.out HX.out HQ.out).mono ?_
  rintro e w1 ⟨rfl, hp, hk⟩
  have H1 := Lib.hid hp
  have h0 := (hk _ (.inr (.inl rfl))).trans HR0.out
  have h1 := (hk _ (.inr (.inr rfl))).trans HR1.out
  have HK1 := Lib.hid (show ∀ k, K k → w1.heap[k]? = w.heap[k]? from fun k q => (hk k (.inl q)).trans (HK0.out k q))
  have y0 := cell_of_row w1 _ 0 _ _ _ h0
  have y1 := cell_of_row w1 _ 1 _ _ _ h0
  have y2 := cell_of_row w1 _ 2 _ _ _ h0
  have y3 := cell_of_row w1 _ 3 _ _ _ h0
  simp at y0 y1 y2 y3
  have fy0 := frz_of_row 0 h0
  have fy1 := frz_of_row 1 h0
  have fy2 := frz_of_row 2 h0
  have fy3 := frz_of_row 3 h0
  have z0 := cell_of_row w1 _ 0 _ _ _ h1
  have z1 := cell_of_row w1 _ 1 _ _ _ h1
  have z2 := cell_of_row w1 _ 2 _ _ _ h1
  have z3 := cell_of_row w1 _ 3 _ _ _ h1
  simp at z0 z1 z2 z3
  have fz0 := frz_of_row 0 h1
  have fz1 := frz_of_row 1 h1
  have fz2 := frz_of_row 2 h1
  have fz3 := frz_of_row 3 h1
  clear hp hk h0 h1 HB
  go_wp2_with fail
  exact bodyPost_ret (v := .tuple #[.agg #[.int .i64 yc, .int .i64 yk, .int .i64 a, .int .u64 yn], .int .i64 0]) (by simp [results, Tryz.results180, go_sem, zeroY, Sy.v, z0, z1, z2, z3, y0, y1, y2, y3]) rfl
   ⟨rfl, ((H1.out.setAt gS g2 (.inr (.inl rfl)) HBL.out 2 _).set4 gS g2 (.inr (.inr rfl)) (by have := HBL.out; omega) 0 _ _ _ _).less (fun k q => .inl q), fun k q => (set4_other _ _ _ _ _ _ _ _ (by have := HKl.out k q; omega)).trans ((heap_setCell_other _ _ _ _ (by have := HKl.out k q; dsimp only; omega)).trans (HK1.out k q))⟩
 ·have hne : (f != 0) = true := by simpa using hf0
  have HE := Lib.hid hf0
  clear hf0
  have hw := HF.out
  rw [say_no (y := ⟨yc, yk, yh, yn⟩) HQ.out HE.out] at hw
  injection hw with e1 hw
  injection hw with e2 e3
  subst e1 e2 e3
  clear HF
  go_enter Tryz.func180, Tryz.ntmps180
  go_wp2_with fail
  refine (HB.out.hashP g2 HH.out HX.out HQ.out).mono ?_
  rintro e w1 ⟨rfl, hp, hk⟩
  have H1 := Lib.hid hp
  have h0 := (hk _ (.inr (.inl rfl))).trans HR0.out
  have h1 := (hk _ (.inr (.inr rfl))).trans HR1.out
  have HK1 := Lib.hid (show ∀ k, K k → w1.heap[k]? = w.heap[k]? from fun k q => (hk k (.inl q)).trans (HK0.out k q))
  have y0 := cell_of_row w1 _ 0 _ _ _ h0
  have y1 := cell_of_row w1 _ 1 _ _ _ h0
  have y2 := cell_of_row w1 _ 2 _ _ _ h0
  have y3 := cell_of_row w1 _ 3 _ _ _ h0
  simp at y0 y1 y2 y3
  have fy0 := frz_of_row 0 h0
  have fy1 := frz_of_row 1 h0
  have fy2 := frz_of_row 2 h0
  have fy3 := frz_of_row 3 h0
  have z0 := cell_of_row w1 _ 0 _ _ _ h1
  have z1 := cell_of_row w1 _ 1 _ _ _ h1
  have z2 := cell_of_row w1 _ 2 _ _ _ h1
  have z3 := cell_of_row w1 _ 3 _ _ _ h1
  simp at z0 z1 z2 z3
  have fz0 := frz_of_row 0 h1
  have fz1 := frz_of_row 1 h1
  have fz2 := frz_of_row 2 h1
  have fz3 := frz_of_row 3 h1
  clear hp hk h0 h1 HB
  go_wp2_with fail
  exact bodyPost_ret (v := .tuple #[zeroY.v, .int .i64 f]) (by simp [results, Tryz.results180, go_sem, zeroY, Sy.v, z0, z1, z2, z3, y0, y1, y2, y3]) rfl
   ⟨rfl, ((H1.out).set4 gS g2 (.inr (.inr rfl)) (by have := HBL.out; omega) 0 _ _ _ _).less (fun k q => .inl q), fun k q => (set4_other _ _ _ _ _ _ _ _ (by have := HKl.out k q; omega)).trans (HK1.out k q)⟩
set_option maxHeartbeats 1000000 in
theorem Pair.turnP {L' : List Tm} {y y' : Sy} {e x : Int} (g2 : Good base Q2) (h : Pair base (PSq base g most) Q2 L L2 K w0 w) (hy : y.Wf) (hx : I64 x) (hf : turnF L most y x = (y', e, L')) :
  Calls Tryz.prog 173 #[y.v, .pointer (some ⟨g, 0, none⟩), .int .i64 x] w (TwoK y'.v (.int .i64 e) (Pair base (PSq base g most) Q2 L' L2 K w0) K w) := by
 have gS := PSq.good base g most
 obtain ⟨yc, yk, yh, yn⟩ := y
 obtain ⟨a, b, f, M, q⟩ : ∃ a b f M, mixF L most yc x = (a, b, f, M) := ⟨_, _, _, _, rfl⟩
 obtain ⟨hb, hr0, hr1, hk⟩ := h.box2 gS g2 #[.int .i64 yc, .int .i64 yk, .int .i64 yh, .int .u64 yn] #[.int .i64 0, .int .i64 0, .int .i64 0, .int .u64 0] 45 45
 have HB := Lib.hid hb
 have HR0 := Lib.hid hr0
 have HR1 := Lib.hid hr1
 have HK0 := Lib.hid hk
 have HKl := Lib.hid h.klt
 have HBL := Lib.hid h.base_le
 have HC : Hid (I64 yc) := Lib.hid hy.ck
 have HH : Hid (I64 yh) := Lib.hid hy.h
 have HX := Lib.hid hx
 have HF := Lib.hid hf
 have HQ := Lib.hid q
 unfold Sy.v
 clear h hy hx hf q hb hr0 hr1 hk
 by_cases hf0 : f = 0
 ·subst hf0
  have hw := HF.out
  rw [turn_yes (y := ⟨yc, yk, yh, yn⟩) HQ.out] at hw
  injection hw with e1 hw
  injection hw with e2 e3
  subst e1 e2 e3
  clear HF
  go_enter Tryz.func173, Tryz.ntmps173
  go_wp2_with fail
  refine (HB.out.mixP g2 HC.out HX.out HQ.out).mono ?_
  rintro e w1 ⟨rfl, hp, hk⟩
  have H1 := Lib.hid hp
  have h0 := (hk _ (.inr (.inl rfl))).trans HR0.out
  have h1 := (hk _ (.inr (.inr rfl))).trans HR1.out
  have HK1 := Lib.hid (show ∀ k, K k → w1.heap[k]? = w.heap[k]? from fun k q => (hk k (.inl q)).trans (HK0.out k q))
  have y0 := cell_of_row w1 _ 0 _ _ _ h0
  have y1 := cell_of_row w1 _ 1 _ _ _ h0
  have y2 := cell_of_row w1 _ 2 _ _ _ h0
  have y3 := cell_of_row w1 _ 3 _ _ _ h0
  simp at y0 y1 y2 y3
  have fy0 := frz_of_row 0 h0
  have fy1 := frz_of_row 1 h0
  have fy2 := frz_of_row 2 h0
  have fy3 := frz_of_row 3 h0
  have z0 := cell_of_row w1 _ 0 _ _ _ h1
  have z1 := cell_of_row w1 _ 1 _ _ _ h1
  have z2 := cell_of_row w1 _ 2 _ _ _ h1
  have z3 := cell_of_row w1 _ 3 _ _ _ h1
  simp at z0 z1 z2 z3
  have fz0 := frz_of_row 0 h1
  have fz1 := frz_of_row 1 h1
  have fz2 := frz_of_row 2 h1
  have fz3 := frz_of_row 3 h1
  clear hp hk h0 h1 HB
  go_wp2_with fail
  exact bodyPost_ret (v := .tuple #[.agg #[.int .i64 a, .int .i64 b, .int .i64 yh, .int .u64 0], .int .i64 0]) (by simp [results, Tryz.results173, go_sem, zeroY, Sy.v, z0, z1, z2, z3, y0, y1, y2, y3]) rfl
   ⟨rfl, ((H1.out).set4 gS g2 (.inr (.inr rfl)) (by have := HBL.out; omega) 0 _ _ _ _).less (fun k q => .inl q), fun k q => (set4_other _ _ _ _ _ _ _ _ (by have := HKl.out k q; omega)).trans (HK1.out k q)⟩
 ·have hne : (f != 0) = true := by simpa using hf0
  have HE := Lib.hid hf0
  clear hf0
  have hw := HF.out
  rw [turn_no (y := ⟨yc, yk, yh, yn⟩) HQ.out HE.out] at hw
  injection hw with e1 hw
  injection hw with e2 e3
  subst e1 e2 e3
  clear HF
  go_enter Tryz.func173, Tryz.ntmps173
  go_wp2_with fail
  refine (HB.out.mixP g2 HC.out HX.out HQ.out).mono ?_
  rintro e w1 ⟨rfl, hp, hk⟩
  have H1 := Lib.hid hp
  have h0 := (hk _ (.inr (.inl rfl))).trans HR0.out
  have h1 := (hk _ (.inr (.inr rfl))).trans HR1.out
  have HK1 := Lib.hid (show ∀ k, K k → w1.heap[k]? = w.heap[k]? from fun k q => (hk k (.inl q)).trans (HK0.out k q))
  have y0 := cell_of_row w1 _ 0 _ _ _ h0
  have y1 := cell_of_row w1 _ 1 _ _ _ h0
  have y2 := cell_of_row w1 _ 2 _ _ _ h0
  have y3 := cell_of_row w1 _ 3 _ _ _ h0
  simp at y0 y1 y2 y3
  have fy0 := frz_of_row 0 h0
  have fy1 := frz_of_row 1 h0
  have fy2 := frz_of_row 2 h0
  have fy3 := frz_of_row 3 h0
  have z0 := cell_of_row w1 _ 0 _ _ _ h1
  have z1 := cell_of_row w1 _ 1 _ _ _ h1
  have z2 := cell_of_row w1 _ 2 _ _ _ h1
  have z3 := cell_of_row w1 _ 3 _ _ _ h1
  simp at z0 z1 z2 z3
  have fz0 := frz_of_row 0 h1
  have fz1 := frz_of_row 1 h1
  have fz2 := frz_of_row 2 h1
  have fz3 := frz_of_row 3 h1
  clear hp hk h0 h1 HB
  go_wp2_with fail
  exact bodyPost_ret (v := .tuple #[zeroY.v, .int .i64 f]) (by simp [results, Tryz.results173, go_sem, zeroY, Sy.v, z0, z1, z2, z3, y0, y1, y2, y3]) rfl
   ⟨rfl, ((H1.out).set4 gS g2 (.inr (.inr rfl)) (by have := HBL.out; omega) 0 _ _ _ _).less (fun k q => .inl q), fun k q => (set4_other _ _ _ _ _ _ _ _ (by have := HKl.out k q; omega)).trans (HK1.out k q)⟩
set_option maxHeartbeats 1000000 in
theorem Pair.splitP {L' : List Tm} {y : Sy} {a b e : Int} (g2 : Good base Q2) (h : Pair base (PSq base g most) Q2 L L2 K w0 w) (hy : y.Wf) (hf : splitF L most y = (a, b, e, L')) :
  Calls Tryz.prog 185 #[y.v, .pointer (some ⟨g, 0, none⟩)] w (Three (.int .i64 a) (.int .i64 b) (.int .i64 e) (Pair base (PSq base g most) Q2 L' L2 K w0) K w) := by
 have gS := PSq.good base g most
 obtain ⟨yc, yk, yh, yn⟩ := y
 obtain ⟨t, f, M, q⟩ : ∃ a f M, putF L most (textT ⟨#[]⟩) = (a, f, M) := ⟨_, _, _, rfl⟩
 obtain ⟨hb, hr, hk⟩ := h.box1 gS g2 #[.int .i64 yc, .int .i64 yk, .int .i64 yh, .int .u64 yn] 45
 have HB := Lib.hid hb
 have HR := Lib.hid hr
 have HK0 := Lib.hid hk
 have HC : Hid (I64 yc) := Lib.hid hy.ck
 have HT := Lib.hid (name_i64 h.facts.2.1 h.facts.2.2 q)
 have HF := Lib.hid hf
 have HQ := Lib.hid q
 unfold Sy.v
 clear h hy hf q hb hr hk
 by_cases hf0 : f = 0
 ·subst hf0
  have hw := HF.out
  rw [split_yes (y := ⟨yc, yk, yh, yn⟩) HQ.out] at hw
  have HM : Hid (mixF M most yc t = (a, b, e, L')) := Lib.hid hw
  clear HF hw
  go_enter Tryz.func185, Tryz.ntmps185
  go_wp2_with fail
  refine (HB.out.textOfP g2 wf_emp HQ.out).mono ?_
  rintro e w1 ⟨rfl, hp, hk⟩
  have H1 := Lib.hid hp
  have h1 := (hk _ (.inr rfl)).trans HR.out
  have HK1 := Lib.hid (show ∀ k, K k → w1.heap[k]? = w.heap[k]? from fun k q => (hk k (.inl q)).trans (HK0.out k q))
  have y0 := cell_of_row w1 _ 0 _ _ _ h1
  simp at y0
  clear hp hk h1 HB
  go_wp2_with fail
  refine (H1.out.mixP g2 HC.out HT.out HM.out).mono ?_
  rintro e w2 ⟨rfl, hp, hk⟩
  have H2 := Lib.hid (hp.less (K' := K) (fun k q => .inl q))
  have HK2 := Lib.hid (show ∀ k, K k → w2.heap[k]? = w.heap[k]? from fun k q => (hk k (.inl q)).trans (HK1.out k q))
  clear hp hk H1 y0
  go_wp2_with fail
  go_ret3
  exact ⟨rfl, H2.out, HK2.out⟩
 ·have hne : (f != 0) = true := by simpa using hf0
  have hw := HF.out
  rw [split_no (y := ⟨yc, yk, yh, yn⟩) HQ.out hf0] at hw
  injection hw with e1 hw
  injection hw with e2 hw
  injection hw with e3 e4
  subst e1 e2 e3 e4
  clear HF hf0
  go_enter Tryz.func185, Tryz.ntmps185
  go_wp2_with fail
  refine (HB.out.textOfP g2 wf_emp HQ.out).mono ?_
  rintro e w1 ⟨rfl, hp, hk⟩
  have H1 := Lib.hid (hp.less (K' := K) (fun k q => .inl q))
  have HK1 := Lib.hid (show ∀ k, K k → w1.heap[k]? = w.heap[k]? from fun k q => (hk k (.inl q)).trans (HK0.out k q))
  clear hp hk HB
  go_wp2_with fail
  go_ret3
  exact ⟨rfl, H1.out, HK1.out⟩
end
set_option maxRecDepth 20000
section
variable {base g : Nat} {most : Int} {Q2 : (Nat → Prop) → List Tm → World → Prop} {L L2 : List Tm} {K : Nat → Prop} {w0 w : World}
set_option maxHeartbeats 2000000 in
theorem Pair.sayS {L' : List Tm} {B : Nat} {y y' : Sy} {p s e : Int} (g2 : Good base Q2) (h : Pair base (PSq base g most) Q2 L L2 K w0 w) (hB : K B) (hbB : base ≤ B) (hw : Wk B g y p s w) (hy : y.Wf) (hs : I64 s) (hf : sayF L most y s = (y', e, L')) :
  Calls Tryz.prog 209 #[.pointer (some ⟨B, 0, none⟩)] w (Stp K B g e y' p s (Pair base (PSq base g most) Q2 L' L2 K w0) w) := by
 have gS := PSq.good base g most
 have HC0 := Lib.hid (fun W (h : Pair base (PSq base g most) Q2 L L2 K w0 W) => h.sayP g2 hy hs hf)
 obtain ⟨yc, yk, yh, yn⟩ := y
 obtain ⟨zc, zk, zh, zn⟩ := y'
 have hd : Below w.heap.size w w.drew := (Below.refl _ _).drew
 have HPd := Lib.hid (h.below gS g2 hd)
 have HKl := Lib.hid h.klt
 have hlt := lt_of_block hw
 have hw' : Wk B g ⟨yc, yk, yh, yn⟩ p s w.drew := hw.of (hd.block B hlt)
 have HW := Lib.hid hw'
 have HBK := Lib.hid hB
 have HBb := Lib.hid hbB
 have hS : w.drew.cell? ⟨B, 0, none⟩ = some (.pointer (some ⟨g, 0, none⟩)) ∧ w.drew.cell? ⟨B, 6, none⟩ = some (.int .i64 s) :=
  ⟨cell_of_row _ _ 0 _ _ _ hw', cell_of_row _ _ 6 _ _ _ hw'⟩
 have hS' := hS
 have l1 : w.drew.cell? ⟨B, 1, none⟩ = some (.int .i64 yc) := cell_of_row _ _ 1 _ _ _ hw'
 have l2 : w.drew.cell? ⟨B, 2, none⟩ = some (.int .i64 yk) := cell_of_row _ _ 2 _ _ _ hw'
 have l3 : w.drew.cell? ⟨B, 3, none⟩ = some (.int .i64 yh) := cell_of_row _ _ 3 _ _ _ hw'
 have l4 : w.drew.cell? ⟨B, 4, none⟩ = some (.int .u64 yn) := cell_of_row _ _ 4 _ _ _ hw'
 have HC : Hid (∀ W, Pair base (PSq base g most) Q2 L L2 K w0 W → Calls Tryz.prog 180 #[.agg #[.int .i64 yc, .int .i64 yk, .int .i64 yh, .int .u64 yn], .pointer (some ⟨g, 0, none⟩), .int .i64 s] W (TwoK (.agg #[.int .i64 zc, .int .i64 zk, .int .i64 zh, .int .u64 zn]) (.int .i64 e) (Pair base (PSq base g most) Q2 L' L2 K w0) K W)) := Lib.hid (fun W h => HC0.out W h)
 clear h hw hw' hy hs hf hB hbB hd HC0
 go_enter Tryz.func209, Tryz.ntmps209
 go_wp2
 go_region_with (go_at_call 180; refine (HC.out _ HPd.out).mono ?_; rintro e1 w2 ⟨rfl, hp2, hk2⟩; have hw2 := HW.out.of (hk2 B HBK.out); have hS2 : w2.cell? ⟨B, 0, none⟩ = some (.pointer (some ⟨g, 0, none⟩)) ∧ w2.cell? ⟨B, 6, none⟩ = some (.int .i64 s) := ⟨cell_of_row _ _ 0 _ _ _ hw2, cell_of_row _ _ 6 _ _ _ hw2⟩; have h1 : w2.cell? ⟨B, 1, none⟩ = some (.int .i64 yc) := cell_of_row _ _ 1 _ _ _ hw2; have h2 : w2.cell? ⟨B, 2, none⟩ = some (.int .i64 yk) := cell_of_row _ _ 2 _ _ _ hw2; have h3 : w2.cell? ⟨B, 3, none⟩ = some (.int .i64 yh) := cell_of_row _ _ 3 _ _ _ hw2; have h4 : w2.cell? ⟨B, 4, none⟩ = some (.int .u64 yn) := cell_of_row _ _ 4 _ _ _ hw2; have f1 := frz_of_row (w := w2) 1 hw2; have f2 := frz_of_row (w := w2) 2 hw2; have f3 := frz_of_row (w := w2) 3 hw2; have f4 := frz_of_row (w := w2) 4 hw2; have HP2 := Lib.hid hp2; have HK2 := Lib.hid hk2; have HW2 := Lib.hid hw2; clear hp2 hk2 hw2)
 all_goals
  go_wp2
  go_ret
  have r := row_set 4 (.int .u64 zn) (row_set 3 (.int .i64 zh) (row_set 2 (.int .i64 zk) (row_set 1 (.int .i64 zc) HW2.out)))
  simp at r
  exact ⟨rfl, HP2.out.set4 gS g2 HBK.out HBb.out 1 _ _ _ _, r, fun k q hk => (set4_other w2 B 1 k _ _ _ _ hk).trans (HK2.out k q)⟩
end
section
variable {base g : Nat} {most : Int} {Q2 : (Nat → Prop) → List Tm → World → Prop} {L L2 : List Tm} {K : Nat → Prop} {w0 w : World}
def Stt (base g : Nat) (most : Int) (Q2 : (Nat → Prop) → List Tm → World → Prop) (L2 : List Tm) (Kx : Nat → Prop) (w0 v : World) (B : Nat) (L : List Tm) (y : Sy) (p s : Int) (W : World) : Prop :=
 Pair base (PSq base g most) Q2 L L2 Kx w0 W ∧ Wk B g y p s W ∧ ∀ k, Kx k → k ≠ B → W.heap[k]? = v.heap[k]?
def Stx (base g : Nat) (most : Int) (Q2 : (Nat → Prop) → List Tm → World → Prop) (L2 : List Tm) (Kx : Nat → Prop) (w0 v : World) (B : Nat) (L : List Tm) (W : World) : Prop :=
 Pair base (PSq base g most) Q2 L L2 Kx w0 W ∧ ∀ k, Kx k → k ≠ B → W.heap[k]? = v.heap[k]?
theorem set7_other (w : World) (b k : Nat) (v0 v1 v2 v3 v4 v5 v6 : Value) (h : k ≠ b) : (set7 w b v0 v1 v2 v3 v4 v5 v6).heap[k]? = w.heap[k]? := by
 unfold set7
 rw [heap_setCell_other _ _ _ _ (by exact h), heap_setCell_other _ _ _ _ (by exact h), heap_setCell_other _ _ _ _ (by exact h), heap_setCell_other _ _ _ _ (by exact h), heap_setCell_other _ _ _ _ (by exact h), heap_setCell_other _ _ _ _ (by exact h), heap_setCell_other _ _ _ _ (by exact h)]
theorem Pair.setS7 {Q1 : (Nat → Prop) → List Tm → World → Prop} {L1 : List Tm} (g1 : Good base Q1) (g2 : Good base Q2) (h : Pair base Q1 Q2 L1 L2 K w0 w) {b : Nat} (hk : K b) (hb : base ≤ b) (v0 v1 v2 v3 v4 v5 v6 : Value) : Pair base Q1 Q2 L1 L2 K w0 (set7 w b v0 v1 v2 v3 v4 v5 v6) :=
 ((((((h.setAt g1 g2 hk hb 0 v0).setAt g1 g2 hk hb _ v1).setAt g1 g2 hk hb _ v2).setAt g1 g2 hk hb _ v3).setAt g1 g2 hk hb _ v4).setAt g1 g2 hk hb _ v5).setAt g1 g2 hk hb _ v6
theorem say_at {L : List Tm} {most x : Int} {y : Sy} : sayF L most y x = (if (putF L most (hashT y.H x)).2.1 ≠ 0 then (zeroY, (putF L most (hashT y.H x)).2.1, (putF L most (hashT y.H x)).2.2) else (⟨y.CK, y.K, (putF L most (hashT y.H x)).1, y.N⟩, 0, (putF L most (hashT y.H x)).2.2)) := rfl
theorem next_u64 {n : Int} (h : U64 n) (hl : n ≠ lastN) : U64 (n + 1) := by
 have hb := u64_in h
 simp only [lastN] at hl
 have e1 : IntKind.u64.min = 0 := by decide
 have e2 : IntKind.u64.max = 18446744073709551615 := by decide
 simp only [U64, Lit.wf, e1, e2, Bool.and_eq_true, decide_eq_true_eq]
 omega
set_option maxHeartbeats 2000000 in
theorem Pair.turnSeal {A : Nat} {L' : List Tm} {y y' : Sy} {x c e : Int} (g2 : Good base Q2) (h : Pair base (PSq base g most) Q2 L L2 K w0 w) (hA : K A) (hrow : w.heap[A]? = some (.cells #[.func (.func 206) #[] #[], .func (.func 207) #[] #[], .func (.func 208) #[] #[], .func (.func 209) #[] #[]] 279 (0, 0))) (hy : y.Wf) (hx : I64 x) (hf : sealF L most y x = (y', c, e, L')) :
  Calls Tryz.prog 205 #[.agg #[.pointer (some ⟨g, 0, none⟩), .int .i64 y.CK, .int .i64 y.K, .int .i64 y.H, .int .u64 y.N, .int .i64 x, .int .i64 0], .slice (some ⟨A, 0, none⟩) 4 4] w fun e' w' =>
   ∃ (v0 : Option Addr) (v5 : Int), e' = .returned (.tuple #[.agg #[.pointer v0, .int .i64 y'.CK, .int .i64 y'.K, .int .i64 y'.H, .int .u64 y'.N, .int .i64 v5, .int .i64 c], .int .i64 e]) ∧ Pair base (PSq base g most) Q2 L' L2 K w0 w' ∧ ∀ k, K k → w'.heap[k]? = w.heap[k]? := by
 have gS := PSq.good base g most
 have hbl := h.base_le
 have hkl := h.klt
 obtain ⟨hb, hr0, hr1, hk0⟩ := h.box2 gS g2 #[.pointer (some ⟨g, 0, none⟩), .int .i64 y.CK, .int .i64 y.K, .int .i64 y.H, .int .u64 y.N, .int .i64 x, .int .i64 0] #[.pointer none, .int .i64 0, .int .i64 0, .int .i64 0, .int .u64 0, .int .i64 0, .int .i64 0] 270 270
 obtain ⟨V, hV⟩ : ∃ V, (w.alloc (.cells #[.pointer (some ⟨g, 0, none⟩), .int .i64 y.CK, .int .i64 y.K, .int .i64 y.H, .int .u64 y.N, .int .i64 x, .int .i64 0] 270)).alloc (.cells #[.pointer none, .int .i64 0, .int .i64 0, .int .i64 0, .int .u64 0, .int .i64 0, .int .i64 0] 270) = V := ⟨_, rfl⟩
 rw [hV] at hb hr0 hr1 hk0
 obtain ⟨c1, e1, M1, q1⟩ : ∃ c e M, putF L most (sealT y.K y.N y.H x) = (c, e, M) := ⟨_, _, _, rfl⟩
 obtain ⟨y2, e2, M2, q2⟩ : ∃ u e M, sayF M1 most ⟨y.CK, y.K, y.H, y.N + 1⟩ c1 = (u, e, M) := ⟨_, _, _, rfl⟩
 have KA : Kb K w.heap.size A := .inl hA
 have KB : Kb K w.heap.size w.heap.size := .inr (.inl rfl)
 have KR : Kb K w.heap.size (w.heap.size + 1) := .inr (.inr rfl)
 have hAB : A ≠ w.heap.size := by have := hkl A hA; omega
 have hRB : w.heap.size + 1 ≠ w.heap.size := by omega
 have I0 : Stt base g most Q2 L2 (Kb K w.heap.size) w0 V w.heap.size L y x 0 V := ⟨hb, hr0, fun _ _ _ => rfl⟩
 have hout := inTurn_seal (.pointer (some ⟨g, 0, none⟩)) (.int .i64 y.CK) (.int .i64 y.K) (.int .i64 y.H) (.int .u64 y.N) (.int .i64 x) (.int .i64 0) A
  (Stt base g most Q2 L2 (Kb K w.heap.size) w0 V w.heap.size L y x 0) (fun W => ¬ (y.K = 0 ∨ y.N = lastN) ∧ Stt base g most Q2 L2 (Kb K w.heap.size) w0 V w.heap.size L y x 0 W)
  (fun W => ¬ (y.K = 0 ∨ y.N = lastN) ∧ e1 = 0 ∧ Stt base g most Q2 L2 (Kb K w.heap.size) w0 V w.heap.size M1 y x c1 W) (fun W => ¬ (y.K = 0 ∨ y.N = lastN) ∧ e1 = 0 ∧ Stt base g most Q2 L2 (Kb K w.heap.size) w0 V w.heap.size M1 ⟨y.CK, y.K, y.H, y.N + 1⟩ x c1 W)
  (fun W => ¬ (y.K = 0 ∨ y.N = lastN) ∧ e1 = 0 ∧ e2 = 0 ∧ Stt base g most Q2 L2 (Kb K w.heap.size) w0 V w.heap.size M2 y2 x c1 W)
  (fun er W => ((y.K = 0 ∨ y.N = lastN) ∧ er = 7 ∧ Stx base g most Q2 L2 (Kb K w.heap.size) w0 V w.heap.size L W) ∨ (¬ (y.K = 0 ∨ y.N = lastN) ∧ e1 ≠ 0 ∧ er = e1 ∧ Stx base g most Q2 L2 (Kb K w.heap.size) w0 V w.heap.size M1 W) ∨ (¬ (y.K = 0 ∨ y.N = lastN) ∧ e1 = 0 ∧ e2 ≠ 0 ∧ er = e2 ∧ Stx base g most Q2 L2 (Kb K w.heap.size) w0 V w.heap.size M2 W)) w ?_ ?_ ?_ ?_ ?_ ?_ ?_ (by rw [hV]; exact I0)
 ·refine hout.mono ?_
  rintro e' w' (⟨W, x0, x1, x2, x3, x4, x5, x6, ⟨hok, rfl, rfl, hp, hwk, hkk⟩, hrw, rfl, rfl⟩ | ⟨W, er, hE, hne, rfl, rfl⟩)
  ·have hrr := hrw.symm.trans hwk
   injection hrr with hrr
   injection hrr with hrr
   simp at hrr
   obtain ⟨d0, d1, d2, d3, d4, d5, d6⟩ := hrr
   subst x0 x1 x2 x3 x4 x5 x6
   rw [say_at] at q2
   by_cases hz : (putF M1 most (hashT y.H c1)).2.1 = 0
   ·rw [if_neg (by simpa using hz)] at q2
    injection q2 with r1 r2
    injection r2 with r2 r3
    subst r1 r3
    have hw := hf.symm.trans (seal_yes hok q1 (show putF M1 most (hashT y.H c1) = (_, 0, _) by rw [← hz]))
    injection hw with r1 hw
    injection hw with r2 hw
    injection hw with r3 r4
    subst r1 r2 r3 r4
    refine ⟨some ⟨g, 0, none⟩, x, rfl, ((hp.setS7 gS g2 KR (by omega) _ _ _ _ _ _ _).less (fun k q => .inl q)), fun k q => ?_⟩
    have := hkl k q
    rw [set7_other _ _ _ _ _ _ _ _ _ _ (by omega), hkk k (.inl q) (by omega)]
    exact hk0 k q
   ·rw [if_pos (by simpa using hz)] at q2
    injection q2 with r1 r2
    injection r2 with r2 r3
    exact absurd r2 hz
  ·have hkeep : ∀ W : World, (∀ k, Kb K w.heap.size k → k ≠ w.heap.size → W.heap[k]? = V.heap[k]?) → ∀ k, K k → (set7 W (w.heap.size + 1) (.pointer none) (.int .i64 0) (.int .i64 0) (.int .i64 0) (.int .u64 0) (.int .i64 0) (.int .i64 0)).heap[k]? = w.heap[k]? := fun W hkk k q => by
    have := hkl k q
    rw [set7_other _ _ _ _ _ _ _ _ _ _ (by omega), hkk k (.inl q) (by omega)]
    exact hk0 k q
   have hl : y' = zeroY ∧ c = 0 ∧ e = er ∧ ∃ Lf, L' = Lf ∧ Stx base g most Q2 L2 (Kb K w.heap.size) w0 V w.heap.size Lf W := by
    rcases hE with ⟨hok, rfl, hs⟩ | ⟨hok, n1, rfl, hs⟩ | ⟨hok, rfl, n2, rfl, hs⟩
    ·have hw := hf.symm.trans (seal_not hok)
     injection hw with r1 hw
     injection hw with r2 hw
     injection hw with r3 r4
     exact ⟨r1, r2, r3, _, r4, hs⟩
    ·have hw := hf.symm.trans (seal_no1 hok q1 n1)
     injection hw with r1 hw
     injection hw with r2 hw
     injection hw with r3 r4
     exact ⟨r1, r2, r3, _, r4, hs⟩
    ·rw [say_at] at q2
     by_cases hz : (putF M1 most (hashT y.H c1)).2.1 = 0
     ·rw [if_neg (by simpa using hz)] at q2
      injection q2 with r1 r2
      injection r2 with r2 r3
      exact absurd r2.symm n2
     ·rw [if_pos (by simpa using hz)] at q2
      injection q2 with r1 r2
      injection r2 with r2 r3
      have hw := hf.symm.trans (seal_no2 hok q1 (show putF M1 most (hashT y.H c1) = (_, _, _) from rfl) hz)
      injection hw with s1 hw
      injection hw with s2 hw
      injection hw with s3 s4
      exact ⟨s1, s2, s3.trans r2, _, s4.trans r3, hs⟩
   obtain ⟨rfl, rfl, rfl, Lf, rfl, hp, hkk⟩ := hl
   exact ⟨none, 0, rfl, (hp.setS7 gS g2 KR (by omega) _ _ _ _ _ _ _).less (fun k q => .inl q), hkeep W hkk⟩
 ·rintro W ⟨hp, hwk, hkk⟩
  refine (check_c hwk rfl).mono ?_
  rintro e' w' ⟨rfl, hb'⟩
  have hp' := hp.below gS g2 hb'
  have hkk' : ∀ k, Kb K w.heap.size k → k ≠ w.heap.size → w'.heap[k]? = V.heap[k]? := fun k q hne => (hb'.block k (hp.klt k q)).trans (hkk k q hne)
  by_cases hok : y.K = 0 ∨ y.N = lastN
  ·exact ⟨7, by rw [if_pos hok], .inr ⟨by decide, .inl ⟨hok, rfl, hp', hkk'⟩⟩⟩
  ·exact ⟨0, by rw [if_neg hok], .inl ⟨rfl, hok, hp', hwk.of (hb'.block _ (lt_of_block hwk)), hkk'⟩⟩
 ·rintro W ⟨hok, hp, hwk, hkk⟩
  refine (hp.sealS g2 KB hbl hwk hy hx q1).mono ?_
  rintro e' w' ⟨rfl, hp', hwk', hk'⟩
  have hkk' : ∀ k, Kb K w.heap.size k → k ≠ w.heap.size → w'.heap[k]? = V.heap[k]? := fun k q hne => (hk' k q hne).trans (hkk k q hne)
  by_cases h1 : e1 = 0
  ·exact ⟨e1, rfl, .inl ⟨h1, hok, h1, hp', hwk', hkk'⟩⟩
  ·exact ⟨e1, rfl, .inr ⟨h1, .inr (.inl ⟨hok, h1, rfl, hp', hkk'⟩)⟩⟩
 ·rintro W ⟨hok, h1, hp, hwk, hkk⟩
  refine (hp.countS g2 KB hbl hwk hy.n (by omega)).mono ?_
  rintro e' w' ⟨rfl, hp', hwk', hk'⟩
  exact ⟨0, rfl, .inl ⟨rfl, hok, h1, hp', hwk', fun k q hne => (hk' k q hne).trans (hkk k q hne)⟩⟩
 ·rintro W ⟨hok, h1, hp, hwk, hkk⟩
  refine (hp.sayS g2 KB hbl hwk ⟨hy.ck, hy.k, hy.h, next_u64 hy.n (by omega)⟩ (name_i64 h.facts.2.1 h.facts.2.2 q1) q2).mono ?_
  rintro e' w' ⟨rfl, hp', hwk', hk'⟩
  have hkk' : ∀ k, Kb K w.heap.size k → k ≠ w.heap.size → w'.heap[k]? = V.heap[k]? := fun k q hne => (hk' k q hne).trans (hkk k q hne)
  by_cases h2 : e2 = 0
  ·exact ⟨e2, rfl, .inl ⟨h2, hok, h1, h2, hp', hwk', hkk'⟩⟩
  ·exact ⟨e2, rfl, .inr ⟨h2, .inr (.inr ⟨hok, h1, h2, rfl, hp', hkk'⟩)⟩⟩
 ·have key : ∀ W : World, (∀ k, Kb K w.heap.size k → k ≠ w.heap.size → W.heap[k]? = V.heap[k]?) → W.heap[A]? = some (.cells #[.func (.func 206) #[] #[], .func (.func 207) #[] #[], .func (.func 208) #[] #[], .func (.func 209) #[] #[]] 279 (0, 0)) := fun W hkk => ((hkk A KA hAB).trans (hk0 A hA)).trans hrow
  rintro W (⟨_, _, hkk⟩ | ⟨_, _, _, hkk⟩ | ⟨_, _, _, _, hkk⟩ | ⟨_, _, _, _, hkk⟩)
  ·exact key W hkk
  ·exact key W hkk
  ·exact key W hkk
  ·exact key W hkk
 ·rintro W ⟨_, _, _, _, hwk, _⟩
  exact ⟨_, _, _, _, _, _, _, hwk⟩
 ·have key : ∀ W : World, (∀ k, Kb K w.heap.size k → k ≠ w.heap.size → W.heap[k]? = V.heap[k]?) → W.heap[w.heap.size + 1]? = some (.cells #[.pointer none, .int .i64 0, .int .i64 0, .int .i64 0, .int .u64 0, .int .i64 0, .int .i64 0] 270 (0, 0)) := fun W hkk => (hkk _ KR hRB).trans hr1
  rintro W (⟨_, _, _, _, _, hkk⟩ | ⟨er, ⟨_, _, _, hkk⟩ | ⟨_, _, _, _, hkk⟩ | ⟨_, _, _, _, _, hkk⟩⟩)
  ·exact key W hkk
  ·exact key W hkk
  ·exact key W hkk
  ·exact key W hkk
end
section
variable {base g : Nat} {most : Int} {Q2 : (Nat → Prop) → List Tm → World → Prop} {L L2 : List Tm} {K : Nat → Prop} {w0 w : World}
set_option maxHeartbeats 2000000 in
theorem Pair.turnOpen {A : Nat} {L' : List Tm} {y y' : Sy} {x c e : Int} (g2 : Good base Q2) (h : Pair base (PSq base g most) Q2 L L2 K w0 w) (hA : K A) (hrow : w.heap[A]? = some (.cells #[.func (.func 206) #[] #[], .func (.func 212) #[] #[], .func (.func 208) #[] #[], .func (.func 209) #[] #[]] 279 (0, 0))) (hy : y.Wf) (hx : I64 x) (hf : unsealF L most y x = (y', c, e, L')) :
  Calls Tryz.prog 205 #[.agg #[.pointer (some ⟨g, 0, none⟩), .int .i64 y.CK, .int .i64 y.K, .int .i64 y.H, .int .u64 y.N, .int .i64 0, .int .i64 x], .slice (some ⟨A, 0, none⟩) 4 4] w fun e' w' =>
   ∃ (v0 : Option Addr) (v5 : Int), e' = .returned (.tuple #[.agg #[.pointer v0, .int .i64 y'.CK, .int .i64 y'.K, .int .i64 y'.H, .int .u64 y'.N, .int .i64 c, .int .i64 v5], .int .i64 e]) ∧ Pair base (PSq base g most) Q2 L' L2 K w0 w' ∧ ∀ k, K k → w'.heap[k]? = w.heap[k]? := by
 have gS := PSq.good base g most
 have hbl := h.base_le
 have hkl := h.klt
 obtain ⟨hb, hr0, hr1, hk0⟩ := h.box2 gS g2 #[.pointer (some ⟨g, 0, none⟩), .int .i64 y.CK, .int .i64 y.K, .int .i64 y.H, .int .u64 y.N, .int .i64 0, .int .i64 x] #[.pointer none, .int .i64 0, .int .i64 0, .int .i64 0, .int .u64 0, .int .i64 0, .int .i64 0] 270 270
 obtain ⟨V, hV⟩ : ∃ V, (w.alloc (.cells #[.pointer (some ⟨g, 0, none⟩), .int .i64 y.CK, .int .i64 y.K, .int .i64 y.H, .int .u64 y.N, .int .i64 0, .int .i64 x] 270)).alloc (.cells #[.pointer none, .int .i64 0, .int .i64 0, .int .i64 0, .int .u64 0, .int .i64 0, .int .i64 0] 270) = V := ⟨_, rfl⟩
 rw [hV] at hb hr0 hr1 hk0
 obtain ⟨c1, e1, q1⟩ : ∃ c e, openF L y.K y.N y.H x = (c, e) := ⟨_, _, rfl⟩
 obtain ⟨y2, e2, M2, q2⟩ : ∃ u e M, sayF L most ⟨y.CK, y.K, y.H, y.N + 1⟩ x = (u, e, M) := ⟨_, _, _, rfl⟩
 have KA : Kb K w.heap.size A := .inl hA
 have KB : Kb K w.heap.size w.heap.size := .inr (.inl rfl)
 have KR : Kb K w.heap.size (w.heap.size + 1) := .inr (.inr rfl)
 have hAB : A ≠ w.heap.size := by have := hkl A hA; omega
 have hRB : w.heap.size + 1 ≠ w.heap.size := by omega
 have I0 : Stt base g most Q2 L2 (Kb K w.heap.size) w0 V w.heap.size L y 0 x V := ⟨hb, hr0, fun _ _ _ => rfl⟩
 have hout := inTurn_open (.pointer (some ⟨g, 0, none⟩)) (.int .i64 y.CK) (.int .i64 y.K) (.int .i64 y.H) (.int .u64 y.N) (.int .i64 0) (.int .i64 x) A
  (Stt base g most Q2 L2 (Kb K w.heap.size) w0 V w.heap.size L y 0 x) (fun W => ¬ (y.K = 0 ∨ y.N = lastN) ∧ Stt base g most Q2 L2 (Kb K w.heap.size) w0 V w.heap.size L y 0 x W)
  (fun W => ¬ (y.K = 0 ∨ y.N = lastN) ∧ e1 = 0 ∧ Stt base g most Q2 L2 (Kb K w.heap.size) w0 V w.heap.size L y c1 x W) (fun W => ¬ (y.K = 0 ∨ y.N = lastN) ∧ e1 = 0 ∧ Stt base g most Q2 L2 (Kb K w.heap.size) w0 V w.heap.size L ⟨y.CK, y.K, y.H, y.N + 1⟩ c1 x W)
  (fun W => ¬ (y.K = 0 ∨ y.N = lastN) ∧ e1 = 0 ∧ e2 = 0 ∧ Stt base g most Q2 L2 (Kb K w.heap.size) w0 V w.heap.size M2 y2 c1 x W)
  (fun er W => ((y.K = 0 ∨ y.N = lastN) ∧ er = 7 ∧ Stx base g most Q2 L2 (Kb K w.heap.size) w0 V w.heap.size L W) ∨ (¬ (y.K = 0 ∨ y.N = lastN) ∧ e1 ≠ 0 ∧ er = e1 ∧ Stx base g most Q2 L2 (Kb K w.heap.size) w0 V w.heap.size L W) ∨ (¬ (y.K = 0 ∨ y.N = lastN) ∧ e1 = 0 ∧ e2 ≠ 0 ∧ er = e2 ∧ Stx base g most Q2 L2 (Kb K w.heap.size) w0 V w.heap.size M2 W)) w ?_ ?_ ?_ ?_ ?_ ?_ ?_ (by rw [hV]; exact I0)
 ·refine hout.mono ?_
  rintro e' w' (⟨W, x0, x1, x2, x3, x4, x5, x6, ⟨hok, rfl, rfl, hp, hwk, hkk⟩, hrw, rfl, rfl⟩ | ⟨W, er, hE, hne, rfl, rfl⟩)
  ·have hrr := hrw.symm.trans hwk
   injection hrr with hrr
   injection hrr with hrr
   simp at hrr
   obtain ⟨d0, d1, d2, d3, d4, d5, d6⟩ := hrr
   subst x0 x1 x2 x3 x4 x5 x6
   rw [say_at] at q2
   by_cases hz : (putF L most (hashT y.H x)).2.1 = 0
   ·rw [if_neg (by simpa using hz)] at q2
    injection q2 with r1 r2
    injection r2 with r2 r3
    subst r1 r3
    have hw := hf.symm.trans (unseal_yes hok q1 (show putF L most (hashT y.H x) = (_, 0, _) by rw [← hz]))
    injection hw with r1 hw
    injection hw with r2 hw
    injection hw with r3 r4
    subst r1 r2 r3 r4
    refine ⟨some ⟨g, 0, none⟩, x, rfl, ((hp.setS7 gS g2 KR (by omega) _ _ _ _ _ _ _).less (fun k q => .inl q)), fun k q => ?_⟩
    have := hkl k q
    rw [set7_other _ _ _ _ _ _ _ _ _ _ (by omega), hkk k (.inl q) (by omega)]
    exact hk0 k q
   ·rw [if_pos (by simpa using hz)] at q2
    injection q2 with r1 r2
    injection r2 with r2 r3
    exact absurd r2 hz
  ·have hkeep : ∀ W : World, (∀ k, Kb K w.heap.size k → k ≠ w.heap.size → W.heap[k]? = V.heap[k]?) → ∀ k, K k → (set7 W (w.heap.size + 1) (.pointer none) (.int .i64 0) (.int .i64 0) (.int .i64 0) (.int .u64 0) (.int .i64 0) (.int .i64 0)).heap[k]? = w.heap[k]? := fun W hkk k q => by
    have := hkl k q
    rw [set7_other _ _ _ _ _ _ _ _ _ _ (by omega), hkk k (.inl q) (by omega)]
    exact hk0 k q
   have hl : y' = zeroY ∧ c = 0 ∧ e = er ∧ ∃ Lf, L' = Lf ∧ Stx base g most Q2 L2 (Kb K w.heap.size) w0 V w.heap.size Lf W := by
    rcases hE with ⟨hok, rfl, hs⟩ | ⟨hok, n1, rfl, hs⟩ | ⟨hok, rfl, n2, rfl, hs⟩
    ·have hw := hf.symm.trans (unseal_not hok)
     injection hw with r1 hw
     injection hw with r2 hw
     injection hw with r3 r4
     exact ⟨r1, r2, r3, _, r4, hs⟩
    ·have hw := hf.symm.trans (unseal_no1 hok q1 n1)
     injection hw with r1 hw
     injection hw with r2 hw
     injection hw with r3 r4
     exact ⟨r1, r2, r3, _, r4, hs⟩
    ·rw [say_at] at q2
     by_cases hz : (putF L most (hashT y.H x)).2.1 = 0
     ·rw [if_neg (by simpa using hz)] at q2
      injection q2 with r1 r2
      injection r2 with r2 r3
      exact absurd r2.symm n2
     ·rw [if_pos (by simpa using hz)] at q2
      injection q2 with r1 r2
      injection r2 with r2 r3
      have hw := hf.symm.trans (unseal_no2 hok q1 (show putF L most (hashT y.H x) = (_, _, _) from rfl) hz)
      injection hw with s1 hw
      injection hw with s2 hw
      injection hw with s3 s4
      exact ⟨s1, s2, s3.trans r2, _, s4.trans r3, hs⟩
   obtain ⟨rfl, rfl, rfl, Lf, rfl, hp, hkk⟩ := hl
   exact ⟨none, 0, rfl, (hp.setS7 gS g2 KR (by omega) _ _ _ _ _ _ _).less (fun k q => .inl q), hkeep W hkk⟩
 ·rintro W ⟨hp, hwk, hkk⟩
  refine (check_c hwk rfl).mono ?_
  rintro e' w' ⟨rfl, hb'⟩
  have hp' := hp.below gS g2 hb'
  have hkk' : ∀ k, Kb K w.heap.size k → k ≠ w.heap.size → w'.heap[k]? = V.heap[k]? := fun k q hne => (hb'.block k (hp.klt k q)).trans (hkk k q hne)
  by_cases hok : y.K = 0 ∨ y.N = lastN
  ·exact ⟨7, by rw [if_pos hok], .inr ⟨by decide, .inl ⟨hok, rfl, hp', hkk'⟩⟩⟩
  ·exact ⟨0, by rw [if_neg hok], .inl ⟨rfl, hok, hp', hwk.of (hb'.block _ (lt_of_block hwk)), hkk'⟩⟩
 ·rintro W ⟨hok, hp, hwk, hkk⟩
  refine (hp.openS g2 KB hbl hwk q1).mono ?_
  rintro e' w' ⟨rfl, hp', hwk', hk'⟩
  have hkk' : ∀ k, Kb K w.heap.size k → k ≠ w.heap.size → w'.heap[k]? = V.heap[k]? := fun k q hne => (hk' k q hne).trans (hkk k q hne)
  by_cases h1 : e1 = 0
  ·exact ⟨e1, rfl, .inl ⟨h1, hok, h1, hp', hwk', hkk'⟩⟩
  ·exact ⟨e1, rfl, .inr ⟨h1, .inr (.inl ⟨hok, h1, rfl, hp', hkk'⟩)⟩⟩
 ·rintro W ⟨hok, h1, hp, hwk, hkk⟩
  refine (hp.countS g2 KB hbl hwk hy.n (by omega)).mono ?_
  rintro e' w' ⟨rfl, hp', hwk', hk'⟩
  exact ⟨0, rfl, .inl ⟨rfl, hok, h1, hp', hwk', fun k q hne => (hk' k q hne).trans (hkk k q hne)⟩⟩
 ·rintro W ⟨hok, h1, hp, hwk, hkk⟩
  refine (hp.sayS g2 KB hbl hwk ⟨hy.ck, hy.k, hy.h, next_u64 hy.n (by omega)⟩ hx q2).mono ?_
  rintro e' w' ⟨rfl, hp', hwk', hk'⟩
  have hkk' : ∀ k, Kb K w.heap.size k → k ≠ w.heap.size → w'.heap[k]? = V.heap[k]? := fun k q hne => (hk' k q hne).trans (hkk k q hne)
  by_cases h2 : e2 = 0
  ·exact ⟨e2, rfl, .inl ⟨h2, hok, h1, h2, hp', hwk', hkk'⟩⟩
  ·exact ⟨e2, rfl, .inr ⟨h2, .inr (.inr ⟨hok, h1, h2, rfl, hp', hkk'⟩)⟩⟩
 ·have key : ∀ W : World, (∀ k, Kb K w.heap.size k → k ≠ w.heap.size → W.heap[k]? = V.heap[k]?) → W.heap[A]? = some (.cells #[.func (.func 206) #[] #[], .func (.func 212) #[] #[], .func (.func 208) #[] #[], .func (.func 209) #[] #[]] 279 (0, 0)) := fun W hkk => ((hkk A KA hAB).trans (hk0 A hA)).trans hrow
  rintro W (⟨_, _, hkk⟩ | ⟨_, _, _, hkk⟩ | ⟨_, _, _, _, hkk⟩ | ⟨_, _, _, _, hkk⟩)
  ·exact key W hkk
  ·exact key W hkk
  ·exact key W hkk
  ·exact key W hkk
 ·rintro W ⟨_, _, _, _, hwk, _⟩
  exact ⟨_, _, _, _, _, _, _, hwk⟩
 ·have key : ∀ W : World, (∀ k, Kb K w.heap.size k → k ≠ w.heap.size → W.heap[k]? = V.heap[k]?) → W.heap[w.heap.size + 1]? = some (.cells #[.pointer none, .int .i64 0, .int .i64 0, .int .i64 0, .int .u64 0, .int .i64 0, .int .i64 0] 270 (0, 0)) := fun W hkk => (hkk _ KR hRB).trans hr1
  rintro W (⟨_, _, _, _, _, hkk⟩ | ⟨er, ⟨_, _, _, hkk⟩ | ⟨_, _, _, _, hkk⟩ | ⟨_, _, _, _, _, hkk⟩⟩)
  ·exact key W hkk
  ·exact key W hkk
  ·exact key W hkk
  ·exact key W hkk
end
end Go.Proofs.YtgeonppckeiceaaGreatDoor
