/- What begins, is said, mixed in, and split: contracts of the program's and the document's calls of layer 7, as functions of a store's terms. -/
import Derived.Test.YtlejejeflgnglaaSymH
import Derived.Test.YtlejejeflgnglaaAeadD
namespace Go.Proofs.Ytlejejeflgnglaa
open Go.RowKit
set_option linter.unusedVariables false
set_option linter.unusedSimpArgs false
section
variable {base g : Nat} {most : Int} {Q2 : (Nat → Prop) → List Tm → World → Prop} {L L2 : List Tm} {K : Nat → Prop} {w0 w : World}

set_option maxHeartbeats 400000 in
theorem Pair.textOfP {L' : List Tm} {S : ByteArray} {a e : Int} (g2 : Good base Q2) (h : Pair base (PSq base g most) Q2 L L2 K w0 w) (hS : S.size ≤ maxLen) (hf : putF L most (textT S) = (a, e, L')) :
    Calls Try.prog 33 #[.pointer (some ⟨g, 0, none⟩), .string S] w (TwoK (.int .i64 a) (.int .i64 e) (Pair base (PSq base g most) Q2 L' L2 K w0) K w) := by
  have H := Lib.hid h
  have HS := Lib.hid hS
  have HF := Lib.hid hf
  clear h hS hf
  go_enter Try.func33, Try.ntmps33
  go_wp2_with fail
  refine (H.out.putP g2 (textT S) (text_wf HS.out) HF.out).mono ?_
  rintro e w1 ⟨rfl, h1, hk⟩
  have H1 := Lib.hid h1
  have HK := Lib.hid hk
  clear h1 hk H HF
  go_wp2_with fail
  go_ret2
  exact ⟨rfl, H1.out, HK.out⟩

set_option maxHeartbeats 1000000 in
theorem Pair.beginP {L' : List Tm} {S : ByteArray} {y' : Sy} {e : Int} (g2 : Good base Q2) (h : Pair base (PSq base g most) Q2 L L2 K w0 w) (hS : S.size ≤ maxLen) (hf : beginF L most S = (y', e, L')) :
    Calls Try.prog 11 #[.pointer (some ⟨g, 0, none⟩), .string S] w (TwoK y'.v (.int .i64 e) (Pair base (PSq base g most) Q2 L' L2 K w0) K w) := by
  have gS := PSq.good base g most
  obtain ⟨a, f, M, q⟩ : ∃ a f M, putF L most (textT S) = (a, f, M) := ⟨_, _, _, rfl⟩
  obtain ⟨hb, hr, hk⟩ := h.box1 gS g2 #[.int .i64 0, .int .i64 0, .int .i64 0, .int .u64 0] 25
  have HB := Lib.hid hb
  have HR := Lib.hid hr
  have HK0 := Lib.hid hk
  have HKl := Lib.hid h.klt
  have HBL := Lib.hid h.base_le
  have HS := Lib.hid hS
  have HF := Lib.hid hf
  have HQ := Lib.hid q
  clear h hS hf q hb hr hk
  by_cases hf0 : f = 0
  · subst hf0
    have hw := HF.out
    rw [begin_yes HQ.out] at hw
    injection hw with e1 hw
    injection hw with e2 e3
    subst e1 e2 e3
    clear HF
    go_enter Try.func11, Try.ntmps11
    go_wp2_with fail
    refine (HB.out.textOfP g2 HS.out HQ.out).mono ?_
    rintro e w1 ⟨rfl, hp, hk⟩
    have H1 := Lib.hid hp
    have h1 := (hk _ (.inr rfl)).trans HR.out
    have HK1 := Lib.hid (show ∀ k, K k → w1.heap[k]? = w.heap[k]? from fun k q => (hk k (.inl q)).trans (HK0.out k q))
    have z0 := cell_of_row w1 _ 0 _ _ _ h1
    have z1 := cell_of_row w1 _ 1 _ _ _ h1
    have z2 := cell_of_row w1 _ 2 _ _ _ h1
    have z3 := cell_of_row w1 _ 3 _ _ _ h1
    simp at z0 z1 z2 z3
    have fz0 := frz_of_row 0 h1
    have fz1 := frz_of_row 1 h1
    have fz2 := frz_of_row 2 h1
    have fz3 := frz_of_row 3 h1
    clear hp hk h1 HB
    go_wp2_with fail
    exact bodyPost_ret (v := .tuple #[.agg #[.int .i64 a, .int .i64 0, .int .i64 a, .int .u64 0], .int .i64 0]) (by simp [results, Try.results11, go_sem, zeroY, Sy.v, z0, z1, z2, z3]) rfl
      ⟨rfl, (H1.out.set4 gS g2 (.inr rfl) HBL.out 0 _ _ _ _).less (fun k q => .inl q), fun k q => (set4_other _ _ _ _ _ _ _ _ (by have := HKl.out k q; omega)).trans (HK1.out k q)⟩
  · have hne : (f != 0) = true := by simpa using hf0
    have HE := Lib.hid hf0
    clear hf0
    have hw := HF.out
    rw [begin_no HQ.out HE.out] at hw
    injection hw with e1 hw
    injection hw with e2 e3
    subst e1 e2 e3
    clear HF
    go_enter Try.func11, Try.ntmps11
    go_wp2_with fail
    refine (HB.out.textOfP g2 HS.out HQ.out).mono ?_
    rintro e w1 ⟨rfl, hp, hk⟩
    have H1 := Lib.hid hp
    have h1 := (hk _ (.inr rfl)).trans HR.out
    have HK1 := Lib.hid (show ∀ k, K k → w1.heap[k]? = w.heap[k]? from fun k q => (hk k (.inl q)).trans (HK0.out k q))
    have z0 := cell_of_row w1 _ 0 _ _ _ h1
    have z1 := cell_of_row w1 _ 1 _ _ _ h1
    have z2 := cell_of_row w1 _ 2 _ _ _ h1
    have z3 := cell_of_row w1 _ 3 _ _ _ h1
    simp at z0 z1 z2 z3
    have fz0 := frz_of_row 0 h1
    have fz1 := frz_of_row 1 h1
    have fz2 := frz_of_row 2 h1
    have fz3 := frz_of_row 3 h1
    clear hp hk h1 HB
    go_wp2_with fail
    exact bodyPost_ret (v := .tuple #[zeroY.v, .int .i64 f]) (by simp [results, Try.results11, go_sem, zeroY, Sy.v, z0, z1, z2, z3]) rfl
      ⟨rfl, (H1.out.set4 gS g2 (.inr rfl) HBL.out 0 _ _ _ _).less (fun k q => .inl q), fun k q => (set4_other _ _ _ _ _ _ _ _ (by have := HKl.out k q; omega)).trans (HK1.out k q)⟩

set_option maxHeartbeats 1000000 in
theorem Pair.sayP {L' : List Tm} {y y' : Sy} {e x : Int} (g2 : Good base Q2) (h : Pair base (PSq base g most) Q2 L L2 K w0 w) (hy : y.Wf) (hx : I64 x) (hf : sayF L most y x = (y', e, L')) :
    Calls Try.prog 14 #[y.v, .pointer (some ⟨g, 0, none⟩), .int .i64 x] w (TwoK y'.v (.int .i64 e) (Pair base (PSq base g most) Q2 L' L2 K w0) K w) := by
  have gS := PSq.good base g most
  obtain ⟨yc, yk, yh, yn⟩ := y
  obtain ⟨a, f, M, q⟩ : ∃ a f M, putF L most (hashT yh x) = (a, f, M) := ⟨_, _, _, rfl⟩
  obtain ⟨hb, hr0, hr1, hk⟩ := h.box2 gS g2 #[.int .i64 yc, .int .i64 yk, .int .i64 yh, .int .u64 yn] #[.int .i64 0, .int .i64 0, .int .i64 0, .int .u64 0] 25 25
  have HB := Lib.hid hb
  have HR0 := Lib.hid hr0
  have HR1 := Lib.hid hr1
  have HK0 := Lib.hid hk
  have HKl := Lib.hid h.klt
  have HBL := Lib.hid h.base_le
  have HC : Hid (I64 yc) := Lib.hid hy.ck
  have HH : Hid (I64 yh) := Lib.hid hy.h
  have HX := Lib.hid hx
  have HF := Lib.hid hf
  have HQ := Lib.hid q
  unfold Sy.v
  clear h hy hx hf q hb hr0 hr1 hk
  by_cases hf0 : f = 0
  · subst hf0
    have hw := HF.out
    rw [say_yes (y := ⟨yc, yk, yh, yn⟩) HQ.out] at hw
    injection hw with e1 hw
    injection hw with e2 e3
    subst e1 e2 e3
    clear HF
    go_enter Try.func14, Try.ntmps14
    go_wp2_with fail
    refine (HB.out.hashP g2 HH.out HX.out HQ.out).mono ?_
    rintro e w1 ⟨rfl, hp, hk⟩
    have H1 := Lib.hid hp
    have h0 := (hk _ (.inr (.inl rfl))).trans HR0.out
    have h1 := (hk _ (.inr (.inr rfl))).trans HR1.out
    have HK1 := Lib.hid (show ∀ k, K k → w1.heap[k]? = w.heap[k]? from fun k q => (hk k (.inl q)).trans (HK0.out k q))
    have y0 := cell_of_row w1 _ 0 _ _ _ h0
    have y1 := cell_of_row w1 _ 1 _ _ _ h0
    have y2 := cell_of_row w1 _ 2 _ _ _ h0
    have y3 := cell_of_row w1 _ 3 _ _ _ h0
    simp at y0 y1 y2 y3
    have fy0 := frz_of_row 0 h0
    have fy1 := frz_of_row 1 h0
    have fy2 := frz_of_row 2 h0
    have fy3 := frz_of_row 3 h0
    have z0 := cell_of_row w1 _ 0 _ _ _ h1
    have z1 := cell_of_row w1 _ 1 _ _ _ h1
    have z2 := cell_of_row w1 _ 2 _ _ _ h1
    have z3 := cell_of_row w1 _ 3 _ _ _ h1
    simp at z0 z1 z2 z3
    have fz0 := frz_of_row 0 h1
    have fz1 := frz_of_row 1 h1
    have fz2 := frz_of_row 2 h1
    have fz3 := frz_of_row 3 h1
    clear hp hk h0 h1 HB
    go_wp2_with fail
    exact bodyPost_ret (v := .tuple #[.agg #[.int .i64 yc, .int .i64 yk, .int .i64 a, .int .u64 yn], .int .i64 0]) (by simp [results, Try.results14, go_sem, zeroY, Sy.v, z0, z1, z2, z3, y0, y1, y2, y3]) rfl
      ⟨rfl, ((H1.out.setAt gS g2 (.inr (.inl rfl)) HBL.out 2 _).set4 gS g2 (.inr (.inr rfl)) (by have := HBL.out; omega) 0 _ _ _ _).less (fun k q => .inl q), fun k q => (set4_other _ _ _ _ _ _ _ _ (by have := HKl.out k q; omega)).trans ((heap_setCell_other _ _ _ _ (by have := HKl.out k q; dsimp only; omega)).trans (HK1.out k q))⟩
  · have hne : (f != 0) = true := by simpa using hf0
    have HE := Lib.hid hf0
    clear hf0
    have hw := HF.out
    rw [say_no (y := ⟨yc, yk, yh, yn⟩) HQ.out HE.out] at hw
    injection hw with e1 hw
    injection hw with e2 e3
    subst e1 e2 e3
    clear HF
    go_enter Try.func14, Try.ntmps14
    go_wp2_with fail
    refine (HB.out.hashP g2 HH.out HX.out HQ.out).mono ?_
    rintro e w1 ⟨rfl, hp, hk⟩
    have H1 := Lib.hid hp
    have h0 := (hk _ (.inr (.inl rfl))).trans HR0.out
    have h1 := (hk _ (.inr (.inr rfl))).trans HR1.out
    have HK1 := Lib.hid (show ∀ k, K k → w1.heap[k]? = w.heap[k]? from fun k q => (hk k (.inl q)).trans (HK0.out k q))
    have y0 := cell_of_row w1 _ 0 _ _ _ h0
    have y1 := cell_of_row w1 _ 1 _ _ _ h0
    have y2 := cell_of_row w1 _ 2 _ _ _ h0
    have y3 := cell_of_row w1 _ 3 _ _ _ h0
    simp at y0 y1 y2 y3
    have fy0 := frz_of_row 0 h0
    have fy1 := frz_of_row 1 h0
    have fy2 := frz_of_row 2 h0
    have fy3 := frz_of_row 3 h0
    have z0 := cell_of_row w1 _ 0 _ _ _ h1
    have z1 := cell_of_row w1 _ 1 _ _ _ h1
    have z2 := cell_of_row w1 _ 2 _ _ _ h1
    have z3 := cell_of_row w1 _ 3 _ _ _ h1
    simp at z0 z1 z2 z3
    have fz0 := frz_of_row 0 h1
    have fz1 := frz_of_row 1 h1
    have fz2 := frz_of_row 2 h1
    have fz3 := frz_of_row 3 h1
    clear hp hk h0 h1 HB
    go_wp2_with fail
    exact bodyPost_ret (v := .tuple #[zeroY.v, .int .i64 f]) (by simp [results, Try.results14, go_sem, zeroY, Sy.v, z0, z1, z2, z3, y0, y1, y2, y3]) rfl
      ⟨rfl, ((H1.out).set4 gS g2 (.inr (.inr rfl)) (by have := HBL.out; omega) 0 _ _ _ _).less (fun k q => .inl q), fun k q => (set4_other _ _ _ _ _ _ _ _ (by have := HKl.out k q; omega)).trans (HK1.out k q)⟩

set_option maxHeartbeats 1000000 in
theorem Pair.turnP {L' : List Tm} {y y' : Sy} {e x : Int} (g2 : Good base Q2) (h : Pair base (PSq base g most) Q2 L L2 K w0 w) (hy : y.Wf) (hx : I64 x) (hf : turnF L most y x = (y', e, L')) :
    Calls Try.prog 16 #[y.v, .pointer (some ⟨g, 0, none⟩), .int .i64 x] w (TwoK y'.v (.int .i64 e) (Pair base (PSq base g most) Q2 L' L2 K w0) K w) := by
  have gS := PSq.good base g most
  obtain ⟨yc, yk, yh, yn⟩ := y
  obtain ⟨a, b, f, M, q⟩ : ∃ a b f M, mixF L most yc x = (a, b, f, M) := ⟨_, _, _, _, rfl⟩
  obtain ⟨hb, hr0, hr1, hk⟩ := h.box2 gS g2 #[.int .i64 yc, .int .i64 yk, .int .i64 yh, .int .u64 yn] #[.int .i64 0, .int .i64 0, .int .i64 0, .int .u64 0] 25 25
  have HB := Lib.hid hb
  have HR0 := Lib.hid hr0
  have HR1 := Lib.hid hr1
  have HK0 := Lib.hid hk
  have HKl := Lib.hid h.klt
  have HBL := Lib.hid h.base_le
  have HC : Hid (I64 yc) := Lib.hid hy.ck
  have HH : Hid (I64 yh) := Lib.hid hy.h
  have HX := Lib.hid hx
  have HF := Lib.hid hf
  have HQ := Lib.hid q
  unfold Sy.v
  clear h hy hx hf q hb hr0 hr1 hk
  by_cases hf0 : f = 0
  · subst hf0
    have hw := HF.out
    rw [turn_yes (y := ⟨yc, yk, yh, yn⟩) HQ.out] at hw
    injection hw with e1 hw
    injection hw with e2 e3
    subst e1 e2 e3
    clear HF
    go_enter Try.func16, Try.ntmps16
    go_wp2_with fail
    refine (HB.out.mixP g2 HC.out HX.out HQ.out).mono ?_
    rintro e w1 ⟨rfl, hp, hk⟩
    have H1 := Lib.hid hp
    have h0 := (hk _ (.inr (.inl rfl))).trans HR0.out
    have h1 := (hk _ (.inr (.inr rfl))).trans HR1.out
    have HK1 := Lib.hid (show ∀ k, K k → w1.heap[k]? = w.heap[k]? from fun k q => (hk k (.inl q)).trans (HK0.out k q))
    have y0 := cell_of_row w1 _ 0 _ _ _ h0
    have y1 := cell_of_row w1 _ 1 _ _ _ h0
    have y2 := cell_of_row w1 _ 2 _ _ _ h0
    have y3 := cell_of_row w1 _ 3 _ _ _ h0
    simp at y0 y1 y2 y3
    have fy0 := frz_of_row 0 h0
    have fy1 := frz_of_row 1 h0
    have fy2 := frz_of_row 2 h0
    have fy3 := frz_of_row 3 h0
    have z0 := cell_of_row w1 _ 0 _ _ _ h1
    have z1 := cell_of_row w1 _ 1 _ _ _ h1
    have z2 := cell_of_row w1 _ 2 _ _ _ h1
    have z3 := cell_of_row w1 _ 3 _ _ _ h1
    simp at z0 z1 z2 z3
    have fz0 := frz_of_row 0 h1
    have fz1 := frz_of_row 1 h1
    have fz2 := frz_of_row 2 h1
    have fz3 := frz_of_row 3 h1
    clear hp hk h0 h1 HB
    go_wp2_with fail
    exact bodyPost_ret (v := .tuple #[.agg #[.int .i64 a, .int .i64 b, .int .i64 yh, .int .u64 0], .int .i64 0]) (by simp [results, Try.results16, go_sem, zeroY, Sy.v, z0, z1, z2, z3, y0, y1, y2, y3]) rfl
      ⟨rfl, ((H1.out).set4 gS g2 (.inr (.inr rfl)) (by have := HBL.out; omega) 0 _ _ _ _).less (fun k q => .inl q), fun k q => (set4_other _ _ _ _ _ _ _ _ (by have := HKl.out k q; omega)).trans (HK1.out k q)⟩
  · have hne : (f != 0) = true := by simpa using hf0
    have HE := Lib.hid hf0
    clear hf0
    have hw := HF.out
    rw [turn_no (y := ⟨yc, yk, yh, yn⟩) HQ.out HE.out] at hw
    injection hw with e1 hw
    injection hw with e2 e3
    subst e1 e2 e3
    clear HF
    go_enter Try.func16, Try.ntmps16
    go_wp2_with fail
    refine (HB.out.mixP g2 HC.out HX.out HQ.out).mono ?_
    rintro e w1 ⟨rfl, hp, hk⟩
    have H1 := Lib.hid hp
    have h0 := (hk _ (.inr (.inl rfl))).trans HR0.out
    have h1 := (hk _ (.inr (.inr rfl))).trans HR1.out
    have HK1 := Lib.hid (show ∀ k, K k → w1.heap[k]? = w.heap[k]? from fun k q => (hk k (.inl q)).trans (HK0.out k q))
    have y0 := cell_of_row w1 _ 0 _ _ _ h0
    have y1 := cell_of_row w1 _ 1 _ _ _ h0
    have y2 := cell_of_row w1 _ 2 _ _ _ h0
    have y3 := cell_of_row w1 _ 3 _ _ _ h0
    simp at y0 y1 y2 y3
    have fy0 := frz_of_row 0 h0
    have fy1 := frz_of_row 1 h0
    have fy2 := frz_of_row 2 h0
    have fy3 := frz_of_row 3 h0
    have z0 := cell_of_row w1 _ 0 _ _ _ h1
    have z1 := cell_of_row w1 _ 1 _ _ _ h1
    have z2 := cell_of_row w1 _ 2 _ _ _ h1
    have z3 := cell_of_row w1 _ 3 _ _ _ h1
    simp at z0 z1 z2 z3
    have fz0 := frz_of_row 0 h1
    have fz1 := frz_of_row 1 h1
    have fz2 := frz_of_row 2 h1
    have fz3 := frz_of_row 3 h1
    clear hp hk h0 h1 HB
    go_wp2_with fail
    exact bodyPost_ret (v := .tuple #[zeroY.v, .int .i64 f]) (by simp [results, Try.results16, go_sem, zeroY, Sy.v, z0, z1, z2, z3, y0, y1, y2, y3]) rfl
      ⟨rfl, ((H1.out).set4 gS g2 (.inr (.inr rfl)) (by have := HBL.out; omega) 0 _ _ _ _).less (fun k q => .inl q), fun k q => (set4_other _ _ _ _ _ _ _ _ (by have := HKl.out k q; omega)).trans (HK1.out k q)⟩

set_option maxHeartbeats 1000000 in
theorem Pair.splitP {L' : List Tm} {y : Sy} {a b e : Int} (g2 : Good base Q2) (h : Pair base (PSq base g most) Q2 L L2 K w0 w) (hy : y.Wf) (hf : splitF L most y = (a, b, e, L')) :
    Calls Try.prog 22 #[y.v, .pointer (some ⟨g, 0, none⟩)] w (Three (.int .i64 a) (.int .i64 b) (.int .i64 e) (Pair base (PSq base g most) Q2 L' L2 K w0) K w) := by
  have gS := PSq.good base g most
  obtain ⟨yc, yk, yh, yn⟩ := y
  obtain ⟨t, f, M, q⟩ : ∃ a f M, putF L most (textT ⟨#[]⟩) = (a, f, M) := ⟨_, _, _, rfl⟩
  obtain ⟨hb, hr, hk⟩ := h.box1 gS g2 #[.int .i64 yc, .int .i64 yk, .int .i64 yh, .int .u64 yn] 25
  have HB := Lib.hid hb
  have HR := Lib.hid hr
  have HK0 := Lib.hid hk
  have HC : Hid (I64 yc) := Lib.hid hy.ck
  have HT := Lib.hid (name_i64 h.facts.2.1 h.facts.2.2 q)
  have HF := Lib.hid hf
  have HQ := Lib.hid q
  unfold Sy.v
  clear h hy hf q hb hr hk
  by_cases hf0 : f = 0
  · subst hf0
    have hw := HF.out
    rw [split_yes (y := ⟨yc, yk, yh, yn⟩) HQ.out] at hw
    have HM : Hid (mixF M most yc t = (a, b, e, L')) := Lib.hid hw
    clear HF hw
    go_enter Try.func22, Try.ntmps22
    go_wp2_with fail
    refine (HB.out.textOfP g2 wf_emp HQ.out).mono ?_
    rintro e w1 ⟨rfl, hp, hk⟩
    have H1 := Lib.hid hp
    have h1 := (hk _ (.inr rfl)).trans HR.out
    have HK1 := Lib.hid (show ∀ k, K k → w1.heap[k]? = w.heap[k]? from fun k q => (hk k (.inl q)).trans (HK0.out k q))
    have y0 := cell_of_row w1 _ 0 _ _ _ h1
    simp at y0
    clear hp hk h1 HB
    go_wp2_with fail
    refine (H1.out.mixP g2 HC.out HT.out HM.out).mono ?_
    rintro e w2 ⟨rfl, hp, hk⟩
    have H2 := Lib.hid (hp.less (K' := K) (fun k q => .inl q))
    have HK2 := Lib.hid (show ∀ k, K k → w2.heap[k]? = w.heap[k]? from fun k q => (hk k (.inl q)).trans (HK1.out k q))
    clear hp hk H1 y0
    go_wp2_with fail
    go_ret3
    exact ⟨rfl, H2.out, HK2.out⟩
  · have hne : (f != 0) = true := by simpa using hf0
    have hw := HF.out
    rw [split_no (y := ⟨yc, yk, yh, yn⟩) HQ.out hf0] at hw
    injection hw with e1 hw
    injection hw with e2 hw
    injection hw with e3 e4
    subst e1 e2 e3 e4
    clear HF hf0
    go_enter Try.func22, Try.ntmps22
    go_wp2_with fail
    refine (HB.out.textOfP g2 wf_emp HQ.out).mono ?_
    rintro e w1 ⟨rfl, hp, hk⟩
    have H1 := Lib.hid (hp.less (K' := K) (fun k q => .inl q))
    have HK1 := Lib.hid (show ∀ k, K k → w1.heap[k]? = w.heap[k]? from fun k q => (hk k (.inl q)).trans (HK0.out k q))
    clear hp hk HB
    go_wp2_with fail
    go_ret3
    exact ⟨rfl, H1.out, HK1.out⟩

set_option maxHeartbeats 1000000 in
theorem Pair.beginR {L' : List Tm} {S : ByteArray} {y' : Sy} {e : Int} (g2 : Good base Q2) (h : Pair base (RSq base g most) Q2 L L2 K w0 w) (hS : S.size ≤ maxLen) (hf : beginF L most S = (y', e, L')) :
    Calls Try.prog 13 #[.pointer (some ⟨g, 0, none⟩), .string S] w (TwoK y'.v (.int .i64 e) (Pair base (RSq base g most) Q2 L' L2 K w0) K w) := by
  have gS := RSq.good base g most
  obtain ⟨a, f, M, q⟩ : ∃ a f M, putF L most (textT S) = (a, f, M) := ⟨_, _, _, rfl⟩
  obtain ⟨hb, hr, hk⟩ := h.box1 gS g2 #[.int .i64 0, .int .i64 0, .int .i64 0, .int .u64 0] 31
  have HB := Lib.hid hb
  have HR := Lib.hid hr
  have HK0 := Lib.hid hk
  have HKl := Lib.hid h.klt
  have HBL := Lib.hid h.base_le
  have HS := Lib.hid hS
  have HF := Lib.hid hf
  have HQ := Lib.hid q
  clear h hS hf q hb hr hk
  by_cases hf0 : f = 0
  · subst hf0
    have hw := HF.out
    rw [begin_yes HQ.out] at hw
    injection hw with e1 hw
    injection hw with e2 e3
    subst e1 e2 e3
    clear HF
    go_enter Try.func13, Try.ntmps13
    go_wp2_with fail
    refine (HB.out.putR g2 (textT S) (text_wf HS.out) HQ.out).mono ?_
    rintro e w1 ⟨rfl, hp, hk⟩
    have H1 := Lib.hid hp
    have h1 := (hk _ (.inr rfl)).trans HR.out
    have HK1 := Lib.hid (show ∀ k, K k → w1.heap[k]? = w.heap[k]? from fun k q => (hk k (.inl q)).trans (HK0.out k q))
    have z0 := cell_of_row w1 _ 0 _ _ _ h1
    have z1 := cell_of_row w1 _ 1 _ _ _ h1
    have z2 := cell_of_row w1 _ 2 _ _ _ h1
    have z3 := cell_of_row w1 _ 3 _ _ _ h1
    simp at z0 z1 z2 z3
    have fz0 := frz_of_row 0 h1
    have fz1 := frz_of_row 1 h1
    have fz2 := frz_of_row 2 h1
    have fz3 := frz_of_row 3 h1
    clear hp hk h1 HB
    go_wp2_with fail
    exact bodyPost_ret (v := .tuple #[.agg #[.int .i64 a, .int .i64 0, .int .i64 a, .int .u64 0], .int .i64 0]) (by simp [results, Try.results13, go_sem, zeroY, Sy.v, z0, z1, z2, z3]) rfl
      ⟨rfl, (H1.out.set4 gS g2 (.inr rfl) HBL.out 0 _ _ _ _).less (fun k q => .inl q), fun k q => (set4_other _ _ _ _ _ _ _ _ (by have := HKl.out k q; omega)).trans (HK1.out k q)⟩
  · have hne : (f != 0) = true := by simpa using hf0
    have HE := Lib.hid hf0
    clear hf0
    have hw := HF.out
    rw [begin_no HQ.out HE.out] at hw
    injection hw with e1 hw
    injection hw with e2 e3
    subst e1 e2 e3
    clear HF
    go_enter Try.func13, Try.ntmps13
    go_wp2_with fail
    refine (HB.out.putR g2 (textT S) (text_wf HS.out) HQ.out).mono ?_
    rintro e w1 ⟨rfl, hp, hk⟩
    have H1 := Lib.hid hp
    have h1 := (hk _ (.inr rfl)).trans HR.out
    have HK1 := Lib.hid (show ∀ k, K k → w1.heap[k]? = w.heap[k]? from fun k q => (hk k (.inl q)).trans (HK0.out k q))
    have z0 := cell_of_row w1 _ 0 _ _ _ h1
    have z1 := cell_of_row w1 _ 1 _ _ _ h1
    have z2 := cell_of_row w1 _ 2 _ _ _ h1
    have z3 := cell_of_row w1 _ 3 _ _ _ h1
    simp at z0 z1 z2 z3
    have fz0 := frz_of_row 0 h1
    have fz1 := frz_of_row 1 h1
    have fz2 := frz_of_row 2 h1
    have fz3 := frz_of_row 3 h1
    clear hp hk h1 HB
    go_wp2_with fail
    exact bodyPost_ret (v := .tuple #[zeroY.v, .int .i64 f]) (by simp [results, Try.results13, go_sem, zeroY, Sy.v, z0, z1, z2, z3]) rfl
      ⟨rfl, (H1.out.set4 gS g2 (.inr rfl) HBL.out 0 _ _ _ _).less (fun k q => .inl q), fun k q => (set4_other _ _ _ _ _ _ _ _ (by have := HKl.out k q; omega)).trans (HK1.out k q)⟩

set_option maxHeartbeats 1000000 in
theorem Pair.sayR {L' : List Tm} {y y' : Sy} {e x : Int} (g2 : Good base Q2) (h : Pair base (RSq base g most) Q2 L L2 K w0 w) (hy : y.Wf) (hx : I64 x) (hf : sayF L most y x = (y', e, L')) :
    Calls Try.prog 15 #[.pointer (some ⟨g, 0, none⟩), y.v, .int .i64 x] w (TwoK y'.v (.int .i64 e) (Pair base (RSq base g most) Q2 L' L2 K w0) K w) := by
  have gS := RSq.good base g most
  obtain ⟨yc, yk, yh, yn⟩ := y
  obtain ⟨a, f, M, q⟩ : ∃ a f M, putF L most (hashT yh x) = (a, f, M) := ⟨_, _, _, rfl⟩
  obtain ⟨hb, hr0, hr1, hk⟩ := h.box2 gS g2 #[.int .i64 yc, .int .i64 yk, .int .i64 yh, .int .u64 yn] #[.int .i64 0, .int .i64 0, .int .i64 0, .int .u64 0] 31 31
  have HB := Lib.hid hb
  have HR0 := Lib.hid hr0
  have HR1 := Lib.hid hr1
  have HK0 := Lib.hid hk
  have HKl := Lib.hid h.klt
  have HBL := Lib.hid h.base_le
  have HC : Hid (I64 yc) := Lib.hid hy.ck
  have HH : Hid (I64 yh) := Lib.hid hy.h
  have HX := Lib.hid hx
  have HF := Lib.hid hf
  have HQ := Lib.hid q
  unfold Sy.v
  clear h hy hx hf q hb hr0 hr1 hk
  by_cases hf0 : f = 0
  · subst hf0
    have hw := HF.out
    rw [say_yes (y := ⟨yc, yk, yh, yn⟩) HQ.out] at hw
    injection hw with e1 hw
    injection hw with e2 e3
    subst e1 e2 e3
    clear HF
    go_enter Try.func15, Try.ntmps15
    go_wp2_with fail
    refine (HB.out.hashR g2 HH.out HX.out HQ.out).mono ?_
    rintro e w1 ⟨rfl, hp, hk⟩
    have H1 := Lib.hid hp
    have h0 := (hk _ (.inr (.inl rfl))).trans HR0.out
    have h1 := (hk _ (.inr (.inr rfl))).trans HR1.out
    have HK1 := Lib.hid (show ∀ k, K k → w1.heap[k]? = w.heap[k]? from fun k q => (hk k (.inl q)).trans (HK0.out k q))
    have y0 := cell_of_row w1 _ 0 _ _ _ h0
    have y1 := cell_of_row w1 _ 1 _ _ _ h0
    have y2 := cell_of_row w1 _ 2 _ _ _ h0
    have y3 := cell_of_row w1 _ 3 _ _ _ h0
    simp at y0 y1 y2 y3
    have fy0 := frz_of_row 0 h0
    have fy1 := frz_of_row 1 h0
    have fy2 := frz_of_row 2 h0
    have fy3 := frz_of_row 3 h0
    have z0 := cell_of_row w1 _ 0 _ _ _ h1
    have z1 := cell_of_row w1 _ 1 _ _ _ h1
    have z2 := cell_of_row w1 _ 2 _ _ _ h1
    have z3 := cell_of_row w1 _ 3 _ _ _ h1
    simp at z0 z1 z2 z3
    have fz0 := frz_of_row 0 h1
    have fz1 := frz_of_row 1 h1
    have fz2 := frz_of_row 2 h1
    have fz3 := frz_of_row 3 h1
    clear hp hk h0 h1 HB
    go_wp2_with fail
    exact bodyPost_ret (v := .tuple #[.agg #[.int .i64 yc, .int .i64 yk, .int .i64 a, .int .u64 yn], .int .i64 0]) (by simp [results, Try.results15, go_sem, zeroY, Sy.v, z0, z1, z2, z3, y0, y1, y2, y3]) rfl
      ⟨rfl, ((H1.out).set4 gS g2 (.inr (.inr rfl)) (by have := HBL.out; omega) 0 _ _ _ _).less (fun k q => .inl q), fun k q => (set4_other _ _ _ _ _ _ _ _ (by have := HKl.out k q; omega)).trans (HK1.out k q)⟩
  · have hne : (f != 0) = true := by simpa using hf0
    have HE := Lib.hid hf0
    clear hf0
    have hw := HF.out
    rw [say_no (y := ⟨yc, yk, yh, yn⟩) HQ.out HE.out] at hw
    injection hw with e1 hw
    injection hw with e2 e3
    subst e1 e2 e3
    clear HF
    go_enter Try.func15, Try.ntmps15
    go_wp2_with fail
    refine (HB.out.hashR g2 HH.out HX.out HQ.out).mono ?_
    rintro e w1 ⟨rfl, hp, hk⟩
    have H1 := Lib.hid hp
    have h0 := (hk _ (.inr (.inl rfl))).trans HR0.out
    have h1 := (hk _ (.inr (.inr rfl))).trans HR1.out
    have HK1 := Lib.hid (show ∀ k, K k → w1.heap[k]? = w.heap[k]? from fun k q => (hk k (.inl q)).trans (HK0.out k q))
    have y0 := cell_of_row w1 _ 0 _ _ _ h0
    have y1 := cell_of_row w1 _ 1 _ _ _ h0
    have y2 := cell_of_row w1 _ 2 _ _ _ h0
    have y3 := cell_of_row w1 _ 3 _ _ _ h0
    simp at y0 y1 y2 y3
    have fy0 := frz_of_row 0 h0
    have fy1 := frz_of_row 1 h0
    have fy2 := frz_of_row 2 h0
    have fy3 := frz_of_row 3 h0
    have z0 := cell_of_row w1 _ 0 _ _ _ h1
    have z1 := cell_of_row w1 _ 1 _ _ _ h1
    have z2 := cell_of_row w1 _ 2 _ _ _ h1
    have z3 := cell_of_row w1 _ 3 _ _ _ h1
    simp at z0 z1 z2 z3
    have fz0 := frz_of_row 0 h1
    have fz1 := frz_of_row 1 h1
    have fz2 := frz_of_row 2 h1
    have fz3 := frz_of_row 3 h1
    clear hp hk h0 h1 HB
    go_wp2_with fail
    exact bodyPost_ret (v := .tuple #[zeroY.v, .int .i64 f]) (by simp [results, Try.results15, go_sem, zeroY, Sy.v, z0, z1, z2, z3, y0, y1, y2, y3]) rfl
      ⟨rfl, ((H1.out).set4 gS g2 (.inr (.inr rfl)) (by have := HBL.out; omega) 0 _ _ _ _).less (fun k q => .inl q), fun k q => (set4_other _ _ _ _ _ _ _ _ (by have := HKl.out k q; omega)).trans (HK1.out k q)⟩

set_option maxHeartbeats 1000000 in
theorem Pair.turnR {L' : List Tm} {y y' : Sy} {e x : Int} (g2 : Good base Q2) (h : Pair base (RSq base g most) Q2 L L2 K w0 w) (hy : y.Wf) (hx : I64 x) (hf : turnF L most y x = (y', e, L')) :
    Calls Try.prog 17 #[.pointer (some ⟨g, 0, none⟩), y.v, .int .i64 x] w (TwoK y'.v (.int .i64 e) (Pair base (RSq base g most) Q2 L' L2 K w0) K w) := by
  have gS := RSq.good base g most
  obtain ⟨yc, yk, yh, yn⟩ := y
  obtain ⟨a, b, f, M, q⟩ : ∃ a b f M, mixF L most yc x = (a, b, f, M) := ⟨_, _, _, _, rfl⟩
  obtain ⟨hb, hr0, hr1, hk⟩ := h.box2 gS g2 #[.int .i64 yc, .int .i64 yk, .int .i64 yh, .int .u64 yn] #[.int .i64 0, .int .i64 0, .int .i64 0, .int .u64 0] 31 31
  have HB := Lib.hid hb
  have HR0 := Lib.hid hr0
  have HR1 := Lib.hid hr1
  have HK0 := Lib.hid hk
  have HKl := Lib.hid h.klt
  have HBL := Lib.hid h.base_le
  have HC : Hid (I64 yc) := Lib.hid hy.ck
  have HH : Hid (I64 yh) := Lib.hid hy.h
  have HX := Lib.hid hx
  have HF := Lib.hid hf
  have HQ := Lib.hid q
  unfold Sy.v
  clear h hy hx hf q hb hr0 hr1 hk
  by_cases hf0 : f = 0
  · subst hf0
    have hw := HF.out
    rw [turn_yes (y := ⟨yc, yk, yh, yn⟩) HQ.out] at hw
    injection hw with e1 hw
    injection hw with e2 e3
    subst e1 e2 e3
    clear HF
    go_enter Try.func17, Try.ntmps17
    go_wp2_with fail
    refine (HB.out.mixR g2 HC.out HX.out HQ.out).mono ?_
    rintro e w1 ⟨rfl, hp, hk⟩
    have H1 := Lib.hid hp
    have h0 := (hk _ (.inr (.inl rfl))).trans HR0.out
    have h1 := (hk _ (.inr (.inr rfl))).trans HR1.out
    have HK1 := Lib.hid (show ∀ k, K k → w1.heap[k]? = w.heap[k]? from fun k q => (hk k (.inl q)).trans (HK0.out k q))
    have y0 := cell_of_row w1 _ 0 _ _ _ h0
    have y1 := cell_of_row w1 _ 1 _ _ _ h0
    have y2 := cell_of_row w1 _ 2 _ _ _ h0
    have y3 := cell_of_row w1 _ 3 _ _ _ h0
    simp at y0 y1 y2 y3
    have fy0 := frz_of_row 0 h0
    have fy1 := frz_of_row 1 h0
    have fy2 := frz_of_row 2 h0
    have fy3 := frz_of_row 3 h0
    have z0 := cell_of_row w1 _ 0 _ _ _ h1
    have z1 := cell_of_row w1 _ 1 _ _ _ h1
    have z2 := cell_of_row w1 _ 2 _ _ _ h1
    have z3 := cell_of_row w1 _ 3 _ _ _ h1
    simp at z0 z1 z2 z3
    have fz0 := frz_of_row 0 h1
    have fz1 := frz_of_row 1 h1
    have fz2 := frz_of_row 2 h1
    have fz3 := frz_of_row 3 h1
    clear hp hk h0 h1 HB
    go_wp2_with fail
    exact bodyPost_ret (v := .tuple #[.agg #[.int .i64 a, .int .i64 b, .int .i64 yh, .int .u64 0], .int .i64 0]) (by simp [results, Try.results17, go_sem, zeroY, Sy.v, z0, z1, z2, z3, y0, y1, y2, y3]) rfl
      ⟨rfl, ((H1.out).set4 gS g2 (.inr (.inr rfl)) (by have := HBL.out; omega) 0 _ _ _ _).less (fun k q => .inl q), fun k q => (set4_other _ _ _ _ _ _ _ _ (by have := HKl.out k q; omega)).trans (HK1.out k q)⟩
  · have hne : (f != 0) = true := by simpa using hf0
    have HE := Lib.hid hf0
    clear hf0
    have hw := HF.out
    rw [turn_no (y := ⟨yc, yk, yh, yn⟩) HQ.out HE.out] at hw
    injection hw with e1 hw
    injection hw with e2 e3
    subst e1 e2 e3
    clear HF
    go_enter Try.func17, Try.ntmps17
    go_wp2_with fail
    refine (HB.out.mixR g2 HC.out HX.out HQ.out).mono ?_
    rintro e w1 ⟨rfl, hp, hk⟩
    have H1 := Lib.hid hp
    have h0 := (hk _ (.inr (.inl rfl))).trans HR0.out
    have h1 := (hk _ (.inr (.inr rfl))).trans HR1.out
    have HK1 := Lib.hid (show ∀ k, K k → w1.heap[k]? = w.heap[k]? from fun k q => (hk k (.inl q)).trans (HK0.out k q))
    have y0 := cell_of_row w1 _ 0 _ _ _ h0
    have y1 := cell_of_row w1 _ 1 _ _ _ h0
    have y2 := cell_of_row w1 _ 2 _ _ _ h0
    have y3 := cell_of_row w1 _ 3 _ _ _ h0
    simp at y0 y1 y2 y3
    have fy0 := frz_of_row 0 h0
    have fy1 := frz_of_row 1 h0
    have fy2 := frz_of_row 2 h0
    have fy3 := frz_of_row 3 h0
    have z0 := cell_of_row w1 _ 0 _ _ _ h1
    have z1 := cell_of_row w1 _ 1 _ _ _ h1
    have z2 := cell_of_row w1 _ 2 _ _ _ h1
    have z3 := cell_of_row w1 _ 3 _ _ _ h1
    simp at z0 z1 z2 z3
    have fz0 := frz_of_row 0 h1
    have fz1 := frz_of_row 1 h1
    have fz2 := frz_of_row 2 h1
    have fz3 := frz_of_row 3 h1
    clear hp hk h0 h1 HB
    go_wp2_with fail
    exact bodyPost_ret (v := .tuple #[zeroY.v, .int .i64 f]) (by simp [results, Try.results17, go_sem, zeroY, Sy.v, z0, z1, z2, z3, y0, y1, y2, y3]) rfl
      ⟨rfl, ((H1.out).set4 gS g2 (.inr (.inr rfl)) (by have := HBL.out; omega) 0 _ _ _ _).less (fun k q => .inl q), fun k q => (set4_other _ _ _ _ _ _ _ _ (by have := HKl.out k q; omega)).trans (HK1.out k q)⟩

set_option maxHeartbeats 1000000 in
theorem Pair.splitR {L' : List Tm} {y : Sy} {a b e : Int} (g2 : Good base Q2) (h : Pair base (RSq base g most) Q2 L L2 K w0 w) (hy : y.Wf) (hf : splitF L most y = (a, b, e, L')) :
    Calls Try.prog 23 #[.pointer (some ⟨g, 0, none⟩), y.v] w (Three (.int .i64 a) (.int .i64 b) (.int .i64 e) (Pair base (RSq base g most) Q2 L' L2 K w0) K w) := by
  have gS := RSq.good base g most
  obtain ⟨yc, yk, yh, yn⟩ := y
  obtain ⟨t, f, M, q⟩ : ∃ a f M, putF L most (textT ⟨#[]⟩) = (a, f, M) := ⟨_, _, _, rfl⟩
  obtain ⟨hb, hr, hk⟩ := h.box1 gS g2 #[.int .i64 yc, .int .i64 yk, .int .i64 yh, .int .u64 yn] 31
  have HB := Lib.hid hb
  have HR := Lib.hid hr
  have HK0 := Lib.hid hk
  have HC : Hid (I64 yc) := Lib.hid hy.ck
  have HT := Lib.hid (name_i64 h.factsR.2.1 h.factsR.2.2 q)
  have HF := Lib.hid hf
  have HQ := Lib.hid q
  unfold Sy.v
  clear h hy hf q hb hr hk
  by_cases hf0 : f = 0
  · subst hf0
    have hw := HF.out
    rw [split_yes (y := ⟨yc, yk, yh, yn⟩) HQ.out] at hw
    have HM : Hid (mixF M most yc t = (a, b, e, L')) := Lib.hid hw
    clear HF hw
    go_enter Try.func23, Try.ntmps23
    go_wp2_with fail
    refine (HB.out.putR g2 (textT ⟨#[]⟩) (text_wf wf_emp) HQ.out).mono ?_
    rintro e w1 ⟨rfl, hp, hk⟩
    have H1 := Lib.hid hp
    have h1 := (hk _ (.inr rfl)).trans HR.out
    have HK1 := Lib.hid (show ∀ k, K k → w1.heap[k]? = w.heap[k]? from fun k q => (hk k (.inl q)).trans (HK0.out k q))
    have y0 := cell_of_row w1 _ 0 _ _ _ h1
    simp at y0
    clear hp hk h1 HB
    go_wp2_with fail
    refine (H1.out.mixR g2 HC.out HT.out HM.out).mono ?_
    rintro e w2 ⟨rfl, hp, hk⟩
    have H2 := Lib.hid (hp.less (K' := K) (fun k q => .inl q))
    have HK2 := Lib.hid (show ∀ k, K k → w2.heap[k]? = w.heap[k]? from fun k q => (hk k (.inl q)).trans (HK1.out k q))
    clear hp hk H1 y0
    go_wp2_with fail
    go_ret3
    exact ⟨rfl, H2.out, HK2.out⟩
  · have hne : (f != 0) = true := by simpa using hf0
    have hw := HF.out
    rw [split_no (y := ⟨yc, yk, yh, yn⟩) HQ.out hf0] at hw
    injection hw with e1 hw
    injection hw with e2 hw
    injection hw with e3 e4
    subst e1 e2 e3 e4
    clear HF hf0
    go_enter Try.func23, Try.ntmps23
    go_wp2_with fail
    refine (HB.out.putR g2 (textT ⟨#[]⟩) (text_wf wf_emp) HQ.out).mono ?_
    rintro e w1 ⟨rfl, hp, hk⟩
    have H1 := Lib.hid (hp.less (K' := K) (fun k q => .inl q))
    have HK1 := Lib.hid (show ∀ k, K k → w1.heap[k]? = w.heap[k]? from fun k q => (hk k (.inl q)).trans (HK0.out k q))
    clear hp hk HB
    go_wp2_with fail
    go_ret3
    exact ⟨rfl, H1.out, HK1.out⟩
end
end Go.Proofs.Ytlejejeflgnglaa
