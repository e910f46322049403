/- The document's Seal and Open. -/
import Derived.Test.YtlejejeflgnglaaSymC
import Derived.Test.YtlejejeflgnglaaSymPs
namespace Go.Proofs.Ytlejejeflgnglaa
open Go.RowKit
set_option linter.unusedVariables false
set_option linter.unusedSimpArgs false
set_option maxRecDepth 20000
section
variable {base g : Nat} {most : Int} {Q2 : (Nat → Prop) → List Tm → World → Prop} {L L2 : List Tm} {K : Nat → Prop} {w0 w : World}

set_option maxHeartbeats 4000000 in
theorem Pair.ysealR {L' : List Tm} {y y' : Sy} {x c e : Int} (g2 : Good base Q2) (h : Pair base (RSq base g most) Q2 L L2 K w0 w) (hy : y.Wf) (hx : I64 x) (hf : sealF L most y x = (y', c, e, L')) :
    Calls Try.prog 19 #[.pointer (some ⟨g, 0, none⟩), y.v, .int .i64 x] w (Three y'.v (.int .i64 c) (.int .i64 e) (Pair base (RSq base g most) Q2 L' L2 K w0) K w) := by
  have gS := RSq.good base g most
  obtain ⟨yc, yk, yh, yn⟩ := y
  obtain ⟨c1, e1, M1, q1⟩ : ∃ c e M, putF L most (sealT yk yn yh x) = (c, e, M) := ⟨_, _, _, rfl⟩
  obtain ⟨a2, e2, M2, q2⟩ : ∃ c e M, putF M1 most (hashT yh c1) = (c, e, M) := ⟨_, _, _, rfl⟩
  obtain ⟨hb, hr0, hr1, hk⟩ := h.box2 gS g2 #[.int .i64 yc, .int .i64 yk, .int .i64 yh, .int .u64 yn] #[.int .i64 0, .int .i64 0, .int .i64 0, .int .u64 0] 31 31
  have HB := Lib.hid hb
  have HKb := Lib.hid hb.klt
  have HR0 := Lib.hid hr0
  have HR1 := Lib.hid hr1
  have HK0 := Lib.hid hk
  have HKl := Lib.hid h.klt
  have HBL := Lib.hid h.base_le
  have HYC : Hid (I64 yc) := Lib.hid hy.ck
  have HYK : Hid (I64 yk) := Lib.hid hy.k
  have HYH : Hid (I64 yh) := Lib.hid hy.h
  have HYN : Hid (U64 yn) := Lib.hid hy.n
  have HI : Hid (I64 c1) := Lib.hid (name_i64 h.factsR.2.1 h.factsR.2.2 q1)
  have HX := Lib.hid hx
  have HF := Lib.hid hf
  have HQ1 := Lib.hid q1
  have HQ2 := Lib.hid q2
  unfold Sy.v
  clear h hy hx hf q1 q2 hb hr0 hr1 hk
  by_cases hk0 : yk = 0
  · have k0 : (yk == 0) = true := by simpa using hk0
    have HOK : Hid ((⟨yc, yk, yh, yn⟩ : Sy).K = 0 ∨ (⟨yc, yk, yh, yn⟩ : Sy).N = lastN) := Lib.hid (.inl hk0)
    clear hk0
    have hb := HB.out.less (K' := K) (fun k q => .inl q)
    have hk := HK0.out
    clear HB HQ1 HQ2
    have hw := HF.out
    rw [seal_not (y := ⟨yc, yk, yh, yn⟩) HOK.out] at hw
    injection hw with r1 hw
    injection hw with r2 hw
    injection hw with r3 r4
    subst r1 r2 r3 r4
    clear HF
    go_enter Try.func19, Try.ntmps19
    go_wp2_with fail
    generalize hW : World.alloc (World.alloc w _) _ = W at *
    have hr : W.heap[w.heap.size + 1]? = some (.cells #[.int .i64 0, .int .i64 0, .int .i64 0, .int .u64 0] 31 (0, 0)) := HR1.out
    have z0 := cell_of_row W _ 0 _ _ _ hr
    have z1 := cell_of_row W _ 1 _ _ _ hr
    have z2 := cell_of_row W _ 2 _ _ _ hr
    have z3 := cell_of_row W _ 3 _ _ _ hr
    simp at z0 z1 z2 z3
    have fz0 := frz_of_row 0 hr
    have fz1 := frz_of_row 1 hr
    have fz2 := frz_of_row 2 hr
    have fz3 := frz_of_row 3 hr
    exact bodyPost_ret (v := .tuple #[zeroY.v, .int .i64 0, .int .i64 7]) (by simp [results, Try.results19, go_sem, zeroY, Sy.v, z0, z1, z2, z3]) rfl
      ⟨rfl, hb, hk⟩
  · have k0 : (yk == 0) = false := by simpa using hk0
    by_cases hn0 : yn = lastN
    · have n0 : (yn == 18446744073709551615) = true := by simpa [lastN] using hn0
      have HOK : Hid ((⟨yc, yk, yh, yn⟩ : Sy).K = 0 ∨ (⟨yc, yk, yh, yn⟩ : Sy).N = lastN) := Lib.hid (.inr hn0)
      clear hn0 hk0
      have hb := HB.out.less (K' := K) (fun k q => .inl q)
      have hk := HK0.out
      clear HB HQ1 HQ2
      have hw := HF.out
      rw [seal_not (y := ⟨yc, yk, yh, yn⟩) HOK.out] at hw
      injection hw with r1 hw
      injection hw with r2 hw
      injection hw with r3 r4
      subst r1 r2 r3 r4
      clear HF
      go_enter Try.func19, Try.ntmps19
      go_wp2_with fail
      generalize hW : World.alloc (World.alloc w _) _ = W at *
      have hr : W.heap[w.heap.size + 1]? = some (.cells #[.int .i64 0, .int .i64 0, .int .i64 0, .int .u64 0] 31 (0, 0)) := HR1.out
      have z0 := cell_of_row W _ 0 _ _ _ hr
      have z1 := cell_of_row W _ 1 _ _ _ hr
      have z2 := cell_of_row W _ 2 _ _ _ hr
      have z3 := cell_of_row W _ 3 _ _ _ hr
      simp at z0 z1 z2 z3
      have fz0 := frz_of_row 0 hr
      have fz1 := frz_of_row 1 hr
      have fz2 := frz_of_row 2 hr
      have fz3 := frz_of_row 3 hr
      exact bodyPost_ret (v := .tuple #[zeroY.v, .int .i64 0, .int .i64 7]) (by simp [results, Try.results19, go_sem, zeroY, Sy.v, z0, z1, z2, z3]) rfl
        ⟨rfl, hb, hk⟩
    · have n0 : (yn == 18446744073709551615) = false := by simpa [lastN] using hn0
      have HOK : Hid (¬ ((⟨yc, yk, yh, yn⟩ : Sy).K = 0 ∨ (⟨yc, yk, yh, yn⟩ : Sy).N = lastN)) := Lib.hid (fun q => q.elim hk0 hn0)
      have HWR : Hid (IntKind.u64.wrap (yn + 1) = yn + 1) := Lib.hid (by
        have hb := u64_in HYN.out
        simp only [lastN] at hn0
        simp [IntKind.wrap, IntKind.signed, IntKind.bits]
        omega)
      have HWF : Hid (Sy.Wf ⟨yc, yk, yh, yn + 1⟩) := Lib.hid ⟨HYC.out, HYK.out, HYH.out, next_u64 HYN.out hn0⟩
      clear hk0 hn0
      by_cases he1 : e1 = 0
      · subst he1
        by_cases he2 : e2 = 0
        · subst he2
          have hw := HF.out
          rw [seal_yes (y := ⟨yc, yk, yh, yn⟩) HOK.out HQ1.out HQ2.out] at hw
          injection hw with r1 hw
          injection hw with r2 hw
          injection hw with r3 r4
          subst r1 r2 r3 r4
          clear HF
          have HS : Hid (∀ W, Pair base (RSq base g most) Q2 M1 L2 (Kb K w.heap.size) w0 W → Calls Try.prog 15 #[.pointer (some ⟨g, 0, none⟩), .agg #[.int .i64 yc, .int .i64 yk, .int .i64 yh, .int .u64 (yn + 1)], .int .i64 c1] W (TwoK (.agg #[.int .i64 yc, .int .i64 yk, .int .i64 a2, .int .u64 (yn + 1)]) (.int .i64 0) (Pair base (RSq base g most) Q2 M2 L2 (Kb K w.heap.size) w0) (Kb K w.heap.size) W)) :=
            Lib.hid (fun W h => h.sayR (y := ⟨yc, yk, yh, yn + 1⟩) g2 HWF.out HI.out (say_yes (y := ⟨yc, yk, yh, yn + 1⟩) HQ2.out))
          go_enter Try.func19, Try.ntmps19
          go_wp2_with fail
          refine (HB.out.sealR g2 HYK.out HYN.out HYH.out HX.out HQ1.out).mono ?_
          rintro e' w1 ⟨rfl, hp, hk⟩
          have H1 := Lib.hid hp
          have h0 := (hk _ (.inr (.inl rfl))).trans HR0.out
          have h1 := (hk _ (.inr (.inr rfl))).trans HR1.out
          have HK1 := Lib.hid (show ∀ k, K k → w1.heap[k]? = w.heap[k]? from fun k q => (hk k (.inl q)).trans (HK0.out k q))
          have y0 := cell_of_row w1 _ 0 _ _ _ h0
          have y1 := cell_of_row w1 _ 1 _ _ _ h0
          have y2 := cell_of_row w1 _ 2 _ _ _ h0
          have y3 := cell_of_row w1 _ 3 _ _ _ h0
          simp at y0 y1 y2 y3
          have HR1' := Lib.hid h1
          clear hp hk h0 h1 HB
          go_wp2_with fail
          rw [HWR.out]
          refine (HS.out _ H1.out).mono ?_
          rintro e' w2 ⟨rfl, hp, hk⟩
          have hr := (hk _ (.inr (.inr rfl))).trans HR1'.out
          have H2 := Lib.hid hp
          have HK2 := Lib.hid (show ∀ k, K k → w2.heap[k]? = w.heap[k]? from fun k q => (hk k (.inl q)).trans (HK1.out k q))
          have z0 := cell_of_row w2 _ 0 _ _ _ hr
          have z1 := cell_of_row w2 _ 1 _ _ _ hr
          have z2 := cell_of_row w2 _ 2 _ _ _ hr
          have z3 := cell_of_row w2 _ 3 _ _ _ hr
          simp at z0 z1 z2 z3
          have fz0 := frz_of_row 0 hr
          have fz1 := frz_of_row 1 hr
          have fz2 := frz_of_row 2 hr
          have fz3 := frz_of_row 3 hr
          have hlt := lt_of_block hr
          have HRr := Lib.hid hr
          clear hp hk hr y0 y1 y2 y3 H1
          go_wp2_with fail
          generalize hW : World.alloc _ _ = W
          have hbW : Below (Go.Proofs.Ytlejejeflgnglaa.set4 w2 (w.heap.size + 1) 0 (.int .i64 yc) (.int .i64 yk) (.int .i64 a2) (.int .u64 (yn + 1))).heap.size (Go.Proofs.Ytlejejeflgnglaa.set4 w2 (w.heap.size + 1) 0 (.int .i64 yc) (.int .i64 yk) (.int .i64 a2) (.int .u64 (yn + 1))) W := by
            rw [← hW]
            exact (Below.refl _ _).alloc (Nat.le_refl _) _
          have hsz : (Go.Proofs.Ytlejejeflgnglaa.set4 w2 (w.heap.size + 1) 0 (.int .i64 yc) (.int .i64 yk) (.int .i64 a2) (.int .u64 (yn + 1))).heap.size = w2.heap.size := by simp [Go.Proofs.Ytlejejeflgnglaa.set4]
          have hrow := (hbW.block (w.heap.size + 1) (by rw [hsz]; exact hlt)).trans (row_set4 (.int .i64 yc) (.int .i64 yk) (.int .i64 a2) (.int .u64 (yn + 1)) HRr.out)
          have q0 := cell_of_row W _ 0 _ _ _ hrow
          have q1 := cell_of_row W _ 1 _ _ _ hrow
          have q2 := cell_of_row W _ 2 _ _ _ hrow
          have q3 := cell_of_row W _ 3 _ _ _ hrow
          simp at q0 q1 q2 q3
          clear hW
          exact bodyPost_ret (v := .tuple #[.agg #[.int .i64 yc, .int .i64 yk, .int .i64 a2, .int .u64 (yn + 1)], .int .i64 c1, .int .i64 0]) (by simp [results, Try.results19, go_sem, zeroY, Sy.v, q0, q1, q2, q3]) rfl
            ⟨rfl, ((H2.out.set4 gS g2 (.inr (.inr rfl)) (by have := HBL.out; omega) 0 _ _ _ _).below gS g2 hbW).less (fun k q => .inl q), fun k q => (hbW.block k (by have := HKl.out k q; omega)).trans ((set4_other w2 _ 0 k _ _ _ _ (by have := HKl.out k q; omega)).trans (HK2.out k q))⟩
        · have hne : (e2 != 0) = true := by simpa using he2
          have HE2 := Lib.hid he2
          clear he2
          have hw := HF.out
          rw [seal_no2 (y := ⟨yc, yk, yh, yn⟩) HOK.out HQ1.out HQ2.out HE2.out] at hw
          injection hw with r1 hw
          injection hw with r2 hw
          injection hw with r3 r4
          subst r1 r2 r3 r4
          clear HF
          have HS : Hid (∀ W, Pair base (RSq base g most) Q2 M1 L2 (Kb K w.heap.size) w0 W → Calls Try.prog 15 #[.pointer (some ⟨g, 0, none⟩), .agg #[.int .i64 yc, .int .i64 yk, .int .i64 yh, .int .u64 (yn + 1)], .int .i64 c1] W (TwoK (.agg #[.int .i64 0, .int .i64 0, .int .i64 0, .int .u64 0]) (.int .i64 e2) (Pair base (RSq base g most) Q2 M2 L2 (Kb K w.heap.size) w0) (Kb K w.heap.size) W)) :=
            Lib.hid (fun W h => h.sayR (y := ⟨yc, yk, yh, yn + 1⟩) g2 HWF.out HI.out (say_no (y := ⟨yc, yk, yh, yn + 1⟩) HQ2.out HE2.out))
          go_enter Try.func19, Try.ntmps19
          go_wp2_with fail
          refine (HB.out.sealR g2 HYK.out HYN.out HYH.out HX.out HQ1.out).mono ?_
          rintro e' w1 ⟨rfl, hp, hk⟩
          have H1 := Lib.hid hp
          have h0 := (hk _ (.inr (.inl rfl))).trans HR0.out
          have h1 := (hk _ (.inr (.inr rfl))).trans HR1.out
          have HK1 := Lib.hid (show ∀ k, K k → w1.heap[k]? = w.heap[k]? from fun k q => (hk k (.inl q)).trans (HK0.out k q))
          have y0 := cell_of_row w1 _ 0 _ _ _ h0
          have y1 := cell_of_row w1 _ 1 _ _ _ h0
          have y2 := cell_of_row w1 _ 2 _ _ _ h0
          have y3 := cell_of_row w1 _ 3 _ _ _ h0
          simp at y0 y1 y2 y3
          have HR1' := Lib.hid h1
          clear hp hk h0 h1 HB
          go_wp2_with fail
          rw [HWR.out]
          refine (HS.out _ H1.out).mono ?_
          rintro e' w2 ⟨rfl, hp, hk⟩
          have hr := (hk _ (.inr (.inr rfl))).trans HR1'.out
          have H2 := Lib.hid hp
          have HK2 := Lib.hid (show ∀ k, K k → w2.heap[k]? = w.heap[k]? from fun k q => (hk k (.inl q)).trans (HK1.out k q))
          have z0 := cell_of_row w2 _ 0 _ _ _ hr
          have z1 := cell_of_row w2 _ 1 _ _ _ hr
          have z2 := cell_of_row w2 _ 2 _ _ _ hr
          have z3 := cell_of_row w2 _ 3 _ _ _ hr
          simp at z0 z1 z2 z3
          have fz0 := frz_of_row 0 hr
          have fz1 := frz_of_row 1 hr
          have fz2 := frz_of_row 2 hr
          have fz3 := frz_of_row 3 hr
          have hlt := lt_of_block hr
          have HRr := Lib.hid hr
          clear hp hk hr y0 y1 y2 y3 H1
          go_wp2_with fail
          generalize hW : World.alloc _ _ = W
          have hbW : Below (Go.Proofs.Ytlejejeflgnglaa.set4 w2 (w.heap.size + 1) 0 (.int .i64 0) (.int .i64 0) (.int .i64 0) (.int .u64 0)).heap.size (Go.Proofs.Ytlejejeflgnglaa.set4 w2 (w.heap.size + 1) 0 (.int .i64 0) (.int .i64 0) (.int .i64 0) (.int .u64 0)) W := by
            rw [← hW]
            exact (Below.refl _ _).alloc (Nat.le_refl _) _
          have hsz : (Go.Proofs.Ytlejejeflgnglaa.set4 w2 (w.heap.size + 1) 0 (.int .i64 0) (.int .i64 0) (.int .i64 0) (.int .u64 0)).heap.size = w2.heap.size := by simp [Go.Proofs.Ytlejejeflgnglaa.set4]
          have hrow := (hbW.block (w.heap.size + 1) (by rw [hsz]; exact hlt)).trans (row_set4 (.int .i64 0) (.int .i64 0) (.int .i64 0) (.int .u64 0) HRr.out)
          have q0 := cell_of_row W _ 0 _ _ _ hrow
          have q1 := cell_of_row W _ 1 _ _ _ hrow
          have q2 := cell_of_row W _ 2 _ _ _ hrow
          have q3 := cell_of_row W _ 3 _ _ _ hrow
          simp at q0 q1 q2 q3
          clear hW
          exact bodyPost_ret (v := .tuple #[zeroY.v, .int .i64 0, .int .i64 e2]) (by simp [results, Try.results19, go_sem, zeroY, Sy.v, q0, q1, q2, q3]) rfl
            ⟨rfl, ((H2.out.set4 gS g2 (.inr (.inr rfl)) (by have := HBL.out; omega) 0 _ _ _ _).below gS g2 hbW).less (fun k q => .inl q), fun k q => (hbW.block k (by have := HKl.out k q; omega)).trans ((set4_other w2 _ 0 k _ _ _ _ (by have := HKl.out k q; omega)).trans (HK2.out k q))⟩
      · have hne : (e1 != 0) = true := by simpa using he1
        have HE1 := Lib.hid he1
        clear he1
        have hw := HF.out
        rw [seal_no1 (y := ⟨yc, yk, yh, yn⟩) HOK.out HQ1.out HE1.out] at hw
        injection hw with r1 hw
        injection hw with r2 hw
        injection hw with r3 r4
        subst r1 r2 r3 r4
        clear HF
        go_enter Try.func19, Try.ntmps19
        go_wp2_with fail
        refine (HB.out.sealR g2 HYK.out HYN.out HYH.out HX.out HQ1.out).mono ?_
        rintro e' w1 ⟨rfl, hp, hk⟩
        have H1 := Lib.hid hp
        have h0 := (hk _ (.inr (.inl rfl))).trans HR0.out
        have h1 := (hk _ (.inr (.inr rfl))).trans HR1.out
        have HK1 := Lib.hid (show ∀ k, K k → w1.heap[k]? = w.heap[k]? from fun k q => (hk k (.inl q)).trans (HK0.out k q))
        have z0 := cell_of_row w1 _ 0 _ _ _ h1
        have z1 := cell_of_row w1 _ 1 _ _ _ h1
        have z2 := cell_of_row w1 _ 2 _ _ _ h1
        have z3 := cell_of_row w1 _ 3 _ _ _ h1
        simp at z0 z1 z2 z3
        have fz0 := frz_of_row 0 h1
        have fz1 := frz_of_row 1 h1
        have fz2 := frz_of_row 2 h1
        have fz3 := frz_of_row 3 h1
        clear hp hk h0 h1 HB
        go_wp2_with fail
        exact bodyPost_ret (v := .tuple #[zeroY.v, .int .i64 0, .int .i64 e1]) (by simp [results, Try.results19, go_sem, zeroY, Sy.v, z0, z1, z2, z3]) rfl
          ⟨rfl, (H1.out.set4 gS g2 (.inr (.inr rfl)) (by have := HBL.out; omega) 0 _ _ _ _).less (fun k q => .inl q), fun k q => (set4_other _ _ _ _ _ _ _ _ (by have := HKl.out k q; omega)).trans (HK1.out k q)⟩

set_option maxHeartbeats 4000000 in
theorem Pair.yopenR {L' : List Tm} {y y' : Sy} {x c e : Int} (g2 : Good base Q2) (h : Pair base (RSq base g most) Q2 L L2 K w0 w) (hy : y.Wf) (hx : I64 x) (hf : unsealF L most y x = (y', c, e, L')) :
    Calls Try.prog 21 #[.pointer (some ⟨g, 0, none⟩), y.v, .int .i64 x] w (Three y'.v (.int .i64 c) (.int .i64 e) (Pair base (RSq base g most) Q2 L' L2 K w0) K w) := by
  have gS := RSq.good base g most
  obtain ⟨yc, yk, yh, yn⟩ := y
  obtain ⟨c1, e1, q1⟩ : ∃ c e, openF L yk yn yh x = (c, e) := ⟨_, _, rfl⟩
  obtain ⟨a2, e2, M2, q2⟩ : ∃ c e M, putF L most (hashT yh x) = (c, e, M) := ⟨_, _, _, rfl⟩
  obtain ⟨hb, hr0, hr1, hk⟩ := h.box2 gS g2 #[.int .i64 yc, .int .i64 yk, .int .i64 yh, .int .u64 yn] #[.int .i64 0, .int .i64 0, .int .i64 0, .int .u64 0] 31 31
  have HB := Lib.hid hb
  have HKb := Lib.hid hb.klt
  have HR0 := Lib.hid hr0
  have HR1 := Lib.hid hr1
  have HK0 := Lib.hid hk
  have HKl := Lib.hid h.klt
  have HBL := Lib.hid h.base_le
  have HYC : Hid (I64 yc) := Lib.hid hy.ck
  have HYK : Hid (I64 yk) := Lib.hid hy.k
  have HYH : Hid (I64 yh) := Lib.hid hy.h
  have HYN : Hid (U64 yn) := Lib.hid hy.n
  have HI : Hid (I64 x) := Lib.hid (hx)
  have HX := Lib.hid hx
  have HF := Lib.hid hf
  have HQ1 := Lib.hid q1
  have HQ2 := Lib.hid q2
  unfold Sy.v
  clear h hy hx hf q1 q2 hb hr0 hr1 hk
  by_cases hk0 : yk = 0
  · have k0 : (yk == 0) = true := by simpa using hk0
    have HOK : Hid ((⟨yc, yk, yh, yn⟩ : Sy).K = 0 ∨ (⟨yc, yk, yh, yn⟩ : Sy).N = lastN) := Lib.hid (.inl hk0)
    clear hk0
    have hb := HB.out.less (K' := K) (fun k q => .inl q)
    have hk := HK0.out
    clear HB HQ1 HQ2
    have hw := HF.out
    rw [unseal_not (y := ⟨yc, yk, yh, yn⟩) HOK.out] at hw
    injection hw with r1 hw
    injection hw with r2 hw
    injection hw with r3 r4
    subst r1 r2 r3 r4
    clear HF
    go_enter Try.func21, Try.ntmps21
    go_wp2_with fail
    generalize hW : World.alloc (World.alloc w _) _ = W at *
    have hr : W.heap[w.heap.size + 1]? = some (.cells #[.int .i64 0, .int .i64 0, .int .i64 0, .int .u64 0] 31 (0, 0)) := HR1.out
    have z0 := cell_of_row W _ 0 _ _ _ hr
    have z1 := cell_of_row W _ 1 _ _ _ hr
    have z2 := cell_of_row W _ 2 _ _ _ hr
    have z3 := cell_of_row W _ 3 _ _ _ hr
    simp at z0 z1 z2 z3
    have fz0 := frz_of_row 0 hr
    have fz1 := frz_of_row 1 hr
    have fz2 := frz_of_row 2 hr
    have fz3 := frz_of_row 3 hr
    exact bodyPost_ret (v := .tuple #[zeroY.v, .int .i64 0, .int .i64 7]) (by simp [results, Try.results21, go_sem, zeroY, Sy.v, z0, z1, z2, z3]) rfl
      ⟨rfl, hb, hk⟩
  · have k0 : (yk == 0) = false := by simpa using hk0
    by_cases hn0 : yn = lastN
    · have n0 : (yn == 18446744073709551615) = true := by simpa [lastN] using hn0
      have HOK : Hid ((⟨yc, yk, yh, yn⟩ : Sy).K = 0 ∨ (⟨yc, yk, yh, yn⟩ : Sy).N = lastN) := Lib.hid (.inr hn0)
      clear hn0 hk0
      have hb := HB.out.less (K' := K) (fun k q => .inl q)
      have hk := HK0.out
      clear HB HQ1 HQ2
      have hw := HF.out
      rw [unseal_not (y := ⟨yc, yk, yh, yn⟩) HOK.out] at hw
      injection hw with r1 hw
      injection hw with r2 hw
      injection hw with r3 r4
      subst r1 r2 r3 r4
      clear HF
      go_enter Try.func21, Try.ntmps21
      go_wp2_with fail
      generalize hW : World.alloc (World.alloc w _) _ = W at *
      have hr : W.heap[w.heap.size + 1]? = some (.cells #[.int .i64 0, .int .i64 0, .int .i64 0, .int .u64 0] 31 (0, 0)) := HR1.out
      have z0 := cell_of_row W _ 0 _ _ _ hr
      have z1 := cell_of_row W _ 1 _ _ _ hr
      have z2 := cell_of_row W _ 2 _ _ _ hr
      have z3 := cell_of_row W _ 3 _ _ _ hr
      simp at z0 z1 z2 z3
      have fz0 := frz_of_row 0 hr
      have fz1 := frz_of_row 1 hr
      have fz2 := frz_of_row 2 hr
      have fz3 := frz_of_row 3 hr
      exact bodyPost_ret (v := .tuple #[zeroY.v, .int .i64 0, .int .i64 7]) (by simp [results, Try.results21, go_sem, zeroY, Sy.v, z0, z1, z2, z3]) rfl
        ⟨rfl, hb, hk⟩
    · have n0 : (yn == 18446744073709551615) = false := by simpa [lastN] using hn0
      have HOK : Hid (¬ ((⟨yc, yk, yh, yn⟩ : Sy).K = 0 ∨ (⟨yc, yk, yh, yn⟩ : Sy).N = lastN)) := Lib.hid (fun q => q.elim hk0 hn0)
      have HWR : Hid (IntKind.u64.wrap (yn + 1) = yn + 1) := Lib.hid (by
        have hb := u64_in HYN.out
        simp only [lastN] at hn0
        simp [IntKind.wrap, IntKind.signed, IntKind.bits]
        omega)
      have HWF : Hid (Sy.Wf ⟨yc, yk, yh, yn + 1⟩) := Lib.hid ⟨HYC.out, HYK.out, HYH.out, next_u64 HYN.out hn0⟩
      clear hk0 hn0
      by_cases he1 : e1 = 0
      · subst he1
        by_cases he2 : e2 = 0
        · subst he2
          have hw := HF.out
          rw [unseal_yes (y := ⟨yc, yk, yh, yn⟩) HOK.out HQ1.out HQ2.out] at hw
          injection hw with r1 hw
          injection hw with r2 hw
          injection hw with r3 r4
          subst r1 r2 r3 r4
          clear HF
          have HS : Hid (∀ W, Pair base (RSq base g most) Q2 L L2 (Kb K w.heap.size) w0 W → Calls Try.prog 15 #[.pointer (some ⟨g, 0, none⟩), .agg #[.int .i64 yc, .int .i64 yk, .int .i64 yh, .int .u64 (yn + 1)], .int .i64 x] W (TwoK (.agg #[.int .i64 yc, .int .i64 yk, .int .i64 a2, .int .u64 (yn + 1)]) (.int .i64 0) (Pair base (RSq base g most) Q2 M2 L2 (Kb K w.heap.size) w0) (Kb K w.heap.size) W)) :=
            Lib.hid (fun W h => h.sayR (y := ⟨yc, yk, yh, yn + 1⟩) g2 HWF.out HI.out (say_yes (y := ⟨yc, yk, yh, yn + 1⟩) HQ2.out))
          go_enter Try.func21, Try.ntmps21
          go_wp2_with fail
          refine (HB.out.aopenR g2 HQ1.out).mono ?_
          rintro e' w1 ⟨rfl, hp, hk⟩
          have H1 := Lib.hid hp
          have h0 := (hk.block _ (HKb.out _ (.inr (.inl rfl)))).trans HR0.out
          have h1 := (hk.block _ (HKb.out _ (.inr (.inr rfl)))).trans HR1.out
          have HK1 := Lib.hid (show ∀ k, K k → w1.heap[k]? = w.heap[k]? from fun k q => (hk.block k (HKb.out k (.inl q))).trans (HK0.out k q))
          have y0 := cell_of_row w1 _ 0 _ _ _ h0
          have y1 := cell_of_row w1 _ 1 _ _ _ h0
          have y2 := cell_of_row w1 _ 2 _ _ _ h0
          have y3 := cell_of_row w1 _ 3 _ _ _ h0
          simp at y0 y1 y2 y3
          have HR1' := Lib.hid h1
          clear hp hk h0 h1 HB
          go_wp2_with fail
          rw [HWR.out]
          refine (HS.out _ H1.out).mono ?_
          rintro e' w2 ⟨rfl, hp, hk⟩
          have hr := (hk _ (.inr (.inr rfl))).trans HR1'.out
          have H2 := Lib.hid hp
          have HK2 := Lib.hid (show ∀ k, K k → w2.heap[k]? = w.heap[k]? from fun k q => (hk k (.inl q)).trans (HK1.out k q))
          have z0 := cell_of_row w2 _ 0 _ _ _ hr
          have z1 := cell_of_row w2 _ 1 _ _ _ hr
          have z2 := cell_of_row w2 _ 2 _ _ _ hr
          have z3 := cell_of_row w2 _ 3 _ _ _ hr
          simp at z0 z1 z2 z3
          have fz0 := frz_of_row 0 hr
          have fz1 := frz_of_row 1 hr
          have fz2 := frz_of_row 2 hr
          have fz3 := frz_of_row 3 hr
          have hlt := lt_of_block hr
          have HRr := Lib.hid hr
          clear hp hk hr y0 y1 y2 y3 H1
          go_wp2_with fail
          generalize hW : World.alloc _ _ = W
          have hbW : Below (Go.Proofs.Ytlejejeflgnglaa.set4 w2 (w.heap.size + 1) 0 (.int .i64 yc) (.int .i64 yk) (.int .i64 a2) (.int .u64 (yn + 1))).heap.size (Go.Proofs.Ytlejejeflgnglaa.set4 w2 (w.heap.size + 1) 0 (.int .i64 yc) (.int .i64 yk) (.int .i64 a2) (.int .u64 (yn + 1))) W := by
            rw [← hW]
            exact (Below.refl _ _).alloc (Nat.le_refl _) _
          have hsz : (Go.Proofs.Ytlejejeflgnglaa.set4 w2 (w.heap.size + 1) 0 (.int .i64 yc) (.int .i64 yk) (.int .i64 a2) (.int .u64 (yn + 1))).heap.size = w2.heap.size := by simp [Go.Proofs.Ytlejejeflgnglaa.set4]
          have hrow := (hbW.block (w.heap.size + 1) (by rw [hsz]; exact hlt)).trans (row_set4 (.int .i64 yc) (.int .i64 yk) (.int .i64 a2) (.int .u64 (yn + 1)) HRr.out)
          have q0 := cell_of_row W _ 0 _ _ _ hrow
          have q1 := cell_of_row W _ 1 _ _ _ hrow
          have q2 := cell_of_row W _ 2 _ _ _ hrow
          have q3 := cell_of_row W _ 3 _ _ _ hrow
          simp at q0 q1 q2 q3
          clear hW
          exact bodyPost_ret (v := .tuple #[.agg #[.int .i64 yc, .int .i64 yk, .int .i64 a2, .int .u64 (yn + 1)], .int .i64 c1, .int .i64 0]) (by simp [results, Try.results21, go_sem, zeroY, Sy.v, q0, q1, q2, q3]) rfl
            ⟨rfl, ((H2.out.set4 gS g2 (.inr (.inr rfl)) (by have := HBL.out; omega) 0 _ _ _ _).below gS g2 hbW).less (fun k q => .inl q), fun k q => (hbW.block k (by have := HKl.out k q; omega)).trans ((set4_other w2 _ 0 k _ _ _ _ (by have := HKl.out k q; omega)).trans (HK2.out k q))⟩
        · have hne : (e2 != 0) = true := by simpa using he2
          have HE2 := Lib.hid he2
          clear he2
          have hw := HF.out
          rw [unseal_no2 (y := ⟨yc, yk, yh, yn⟩) HOK.out HQ1.out HQ2.out HE2.out] at hw
          injection hw with r1 hw
          injection hw with r2 hw
          injection hw with r3 r4
          subst r1 r2 r3 r4
          clear HF
          have HS : Hid (∀ W, Pair base (RSq base g most) Q2 L L2 (Kb K w.heap.size) w0 W → Calls Try.prog 15 #[.pointer (some ⟨g, 0, none⟩), .agg #[.int .i64 yc, .int .i64 yk, .int .i64 yh, .int .u64 (yn + 1)], .int .i64 x] W (TwoK (.agg #[.int .i64 0, .int .i64 0, .int .i64 0, .int .u64 0]) (.int .i64 e2) (Pair base (RSq base g most) Q2 M2 L2 (Kb K w.heap.size) w0) (Kb K w.heap.size) W)) :=
            Lib.hid (fun W h => h.sayR (y := ⟨yc, yk, yh, yn + 1⟩) g2 HWF.out HI.out (say_no (y := ⟨yc, yk, yh, yn + 1⟩) HQ2.out HE2.out))
          go_enter Try.func21, Try.ntmps21
          go_wp2_with fail
          refine (HB.out.aopenR g2 HQ1.out).mono ?_
          rintro e' w1 ⟨rfl, hp, hk⟩
          have H1 := Lib.hid hp
          have h0 := (hk.block _ (HKb.out _ (.inr (.inl rfl)))).trans HR0.out
          have h1 := (hk.block _ (HKb.out _ (.inr (.inr rfl)))).trans HR1.out
          have HK1 := Lib.hid (show ∀ k, K k → w1.heap[k]? = w.heap[k]? from fun k q => (hk.block k (HKb.out k (.inl q))).trans (HK0.out k q))
          have y0 := cell_of_row w1 _ 0 _ _ _ h0
          have y1 := cell_of_row w1 _ 1 _ _ _ h0
          have y2 := cell_of_row w1 _ 2 _ _ _ h0
          have y3 := cell_of_row w1 _ 3 _ _ _ h0
          simp at y0 y1 y2 y3
          have HR1' := Lib.hid h1
          clear hp hk h0 h1 HB
          go_wp2_with fail
          rw [HWR.out]
          refine (HS.out _ H1.out).mono ?_
          rintro e' w2 ⟨rfl, hp, hk⟩
          have hr := (hk _ (.inr (.inr rfl))).trans HR1'.out
          have H2 := Lib.hid hp
          have HK2 := Lib.hid (show ∀ k, K k → w2.heap[k]? = w.heap[k]? from fun k q => (hk k (.inl q)).trans (HK1.out k q))
          have z0 := cell_of_row w2 _ 0 _ _ _ hr
          have z1 := cell_of_row w2 _ 1 _ _ _ hr
          have z2 := cell_of_row w2 _ 2 _ _ _ hr
          have z3 := cell_of_row w2 _ 3 _ _ _ hr
          simp at z0 z1 z2 z3
          have fz0 := frz_of_row 0 hr
          have fz1 := frz_of_row 1 hr
          have fz2 := frz_of_row 2 hr
          have fz3 := frz_of_row 3 hr
          have hlt := lt_of_block hr
          have HRr := Lib.hid hr
          clear hp hk hr y0 y1 y2 y3 H1
          go_wp2_with fail
          generalize hW : World.alloc _ _ = W
          have hbW : Below (Go.Proofs.Ytlejejeflgnglaa.set4 w2 (w.heap.size + 1) 0 (.int .i64 0) (.int .i64 0) (.int .i64 0) (.int .u64 0)).heap.size (Go.Proofs.Ytlejejeflgnglaa.set4 w2 (w.heap.size + 1) 0 (.int .i64 0) (.int .i64 0) (.int .i64 0) (.int .u64 0)) W := by
            rw [← hW]
            exact (Below.refl _ _).alloc (Nat.le_refl _) _
          have hsz : (Go.Proofs.Ytlejejeflgnglaa.set4 w2 (w.heap.size + 1) 0 (.int .i64 0) (.int .i64 0) (.int .i64 0) (.int .u64 0)).heap.size = w2.heap.size := by simp [Go.Proofs.Ytlejejeflgnglaa.set4]
          have hrow := (hbW.block (w.heap.size + 1) (by rw [hsz]; exact hlt)).trans (row_set4 (.int .i64 0) (.int .i64 0) (.int .i64 0) (.int .u64 0) HRr.out)
          have q0 := cell_of_row W _ 0 _ _ _ hrow
          have q1 := cell_of_row W _ 1 _ _ _ hrow
          have q2 := cell_of_row W _ 2 _ _ _ hrow
          have q3 := cell_of_row W _ 3 _ _ _ hrow
          simp at q0 q1 q2 q3
          clear hW
          exact bodyPost_ret (v := .tuple #[zeroY.v, .int .i64 0, .int .i64 e2]) (by simp [results, Try.results21, go_sem, zeroY, Sy.v, q0, q1, q2, q3]) rfl
            ⟨rfl, ((H2.out.set4 gS g2 (.inr (.inr rfl)) (by have := HBL.out; omega) 0 _ _ _ _).below gS g2 hbW).less (fun k q => .inl q), fun k q => (hbW.block k (by have := HKl.out k q; omega)).trans ((set4_other w2 _ 0 k _ _ _ _ (by have := HKl.out k q; omega)).trans (HK2.out k q))⟩
      · have hne : (e1 != 0) = true := by simpa using he1
        have HE1 := Lib.hid he1
        clear he1
        have hw := HF.out
        rw [unseal_no1 (y := ⟨yc, yk, yh, yn⟩) HOK.out HQ1.out HE1.out] at hw
        injection hw with r1 hw
        injection hw with r2 hw
        injection hw with r3 r4
        subst r1 r2 r3 r4
        clear HF
        go_enter Try.func21, Try.ntmps21
        go_wp2_with fail
        refine (HB.out.aopenR g2 HQ1.out).mono ?_
        rintro e' w1 ⟨rfl, hp, hk⟩
        have H1 := Lib.hid hp
        have h0 := (hk.block _ (HKb.out _ (.inr (.inl rfl)))).trans HR0.out
        have h1 := (hk.block _ (HKb.out _ (.inr (.inr rfl)))).trans HR1.out
        have HK1 := Lib.hid (show ∀ k, K k → w1.heap[k]? = w.heap[k]? from fun k q => (hk.block k (HKb.out k (.inl q))).trans (HK0.out k q))
        have z0 := cell_of_row w1 _ 0 _ _ _ h1
        have z1 := cell_of_row w1 _ 1 _ _ _ h1
        have z2 := cell_of_row w1 _ 2 _ _ _ h1
        have z3 := cell_of_row w1 _ 3 _ _ _ h1
        simp at z0 z1 z2 z3
        have fz0 := frz_of_row 0 h1
        have fz1 := frz_of_row 1 h1
        have fz2 := frz_of_row 2 h1
        have fz3 := frz_of_row 3 h1
        clear hp hk h0 h1 HB
        go_wp2_with fail
        exact bodyPost_ret (v := .tuple #[zeroY.v, .int .i64 0, .int .i64 e1]) (by simp [results, Try.results21, go_sem, zeroY, Sy.v, z0, z1, z2, z3]) rfl
          ⟨rfl, (H1.out.set4 gS g2 (.inr (.inr rfl)) (by have := HBL.out; omega) 0 _ _ _ _).less (fun k q => .inl q), fun k q => (set4_other _ _ _ _ _ _ _ _ (by have := HKl.out k q; omega)).trans (HK1.out k q)⟩
end
end Go.Proofs.Ytlejejeflgnglaa
