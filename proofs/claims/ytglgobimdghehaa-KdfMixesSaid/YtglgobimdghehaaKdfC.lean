/- Hashes, keys, what is mixed, and chains: contracts of the program's and the document's calls of layer 6, as functions of a store's terms. -/
import Derived.Test.YtglgobimdghehaaWords
import Derived.OneCell
namespace Go.Proofs.Ytglgobimdghehaa
open Go.RowKit
set_option linter.unusedVariables false
set_option linter.unusedSimpArgs false

def hashT (a b : Int) : Tm := ⟨8, ⟨#[]⟩, 0, a, b, 0⟩
def keyT (k n : Int) : Tm := ⟨9, ⟨#[]⟩, n, k, 0, 0⟩
theorem hash_wf {a b : Int} (ha : I64 a) (hb : I64 b) : Wf (hashT a b) := ⟨wf_emp, k8, u0, ha, hb, k0⟩
theorem key_wf {k n : Int} (hk : I64 k) (hn : U64 n) : Wf (keyT k n) := ⟨wf_emp, k9, hn, hk, k0, k0⟩
/-- What is mixed: both keys, or what is wrong, and the terms that are there then. -/
def mixF (L : List Tm) (most k i : Int) : Int × Int × Int × List Tm :=
  if (putF L most (hashT k i)).2.1 ≠ 0 then (0, 0, (putF L most (hashT k i)).2.1, (putF L most (hashT k i)).2.2) else
    let x := putF L most (hashT k i)
    let y := putF x.2.2 most (keyT x.1 1)
    if y.2.1 ≠ 0 then (0, 0, y.2.1, y.2.2) else
      let z := putF y.2.2 most (keyT x.1 2)
      if z.2.1 ≠ 0 then (0, 0, z.2.1, z.2.2) else (y.1, z.1, 0, z.2.2)
theorem mix_no1 {L L1 : List Tm} {most k i a e : Int} (h1 : putF L most (hashT k i) = (a, e, L1)) (he : e ≠ 0) : mixF L most k i = (0, 0, e, L1) := by
  simp [mixF, h1, he]
theorem mix_no2 {L L1 L2 : List Tm} {most k i a b e : Int} (h1 : putF L most (hashT k i) = (a, 0, L1)) (h2 : putF L1 most (keyT a 1) = (b, e, L2)) (he : e ≠ 0) : mixF L most k i = (0, 0, e, L2) := by
  simp [mixF, h1, h2, he]
theorem mix_no3 {L L1 L2 L3 : List Tm} {most k i a b c e : Int} (h1 : putF L most (hashT k i) = (a, 0, L1)) (h2 : putF L1 most (keyT a 1) = (b, 0, L2)) (h3 : putF L2 most (keyT a 2) = (c, e, L3)) (he : e ≠ 0) : mixF L most k i = (0, 0, e, L3) := by
  simp [mixF, h1, h2, h3, he]
theorem mix_yes {L L1 L2 L3 : List Tm} {most k i a b c : Int} (h1 : putF L most (hashT k i) = (a, 0, L1)) (h2 : putF L1 most (keyT a 1) = (b, 0, L2)) (h3 : putF L2 most (keyT a 2) = (c, 0, L3)) : mixF L most k i = (b, c, 0, L3) := by
  simp [mixF, h1, h2, h3]
/-- A chain of so many keys. -/
def chainN (n most : Int) : Nat → List Tm → Int → Int × Int × List Tm
  | 0, L, k => (k, 0, L)
  | t + 1, L, k => if (putF L most (keyT k n)).2.1 ≠ 0 then (0, (putF L most (keyT k n)).2.1, (putF L most (keyT k n)).2.2) else chainN n most t (putF L most (keyT k n)).2.2 (putF L most (keyT k n)).1
theorem chain_zero (n most : Int) (L : List Tm) (k : Int) : chainN n most 0 L k = (k, 0, L) := rfl
theorem chain_no {n most k a e : Int} {t : Nat} {L L1 : List Tm} (h : putF L most (keyT k n) = (a, e, L1)) (he : e ≠ 0) : chainN n most (t + 1) L k = (0, e, L1) := by
  simp [chainN, h, he]
theorem chain_yes {n most k a : Int} {t : Nat} {L L1 : List Tm} (h : putF L most (keyT k n) = (a, 0, L1)) : chainN n most (t + 1) L k = chainN n most t L1 a := by
  simp [chainN, h]
def chainF (L : List Tm) (most k n t : Int) : Int × Int × List Tm := if (getT L k).2 = true ∧ 0 ≤ t ∧ t ≤ 1000 then chainN n most t.toNat L k else (0, 1, L)
theorem name_i64 {L L' : List Tm} {most a e : Int} {t : Tm} (hl : (L.length : Int) ≤ most) (hm : most ≤ 1048576) (h : putF L most t = (a, e, L')) : I64 a := by
  rcases putF_cases L most t with ⟨hp, _⟩ | ⟨j, hj, hp, _⟩ | ⟨hr, hp, _⟩ | ⟨hr, hp, _⟩
  all_goals
    have hh := hp.symm.trans h
    injection hh with a1 a2
    rw [← a1]
  · exact k0
  · exact i64_small (by omega) (by omega)
  · exact k0
  · exact i64_small (by omega) (by omega)
/-- What is put is there. -/
theorem put_there {L L' : List Tm} {most a : Int} {t : Tm} (h : putF L most t = (a, 0, L')) : 1 ≤ a ∧ a ≤ (L'.length : Int) := by
  rcases putF_cases L most t with ⟨hp, _⟩ | ⟨j, hj, hp, _⟩ | ⟨hr, hp, _⟩ | ⟨hr, hp, _⟩
  all_goals
    have hh := hp.symm.trans h
    injection hh with a1 a2
    injection a2 with a2 a3
    subst a3
  · omega
  · omega
  · omega
  · simp; omega
section
variable {base g : Nat} {most : Int} {Q1 Q2 : (Nat → Prop) → List Tm → World → Prop} {L L1 L2 : List Tm} {K : Nat → Prop} {w0 w : World}
theorem Pair.klt (h : Pair base Q1 Q2 L1 L2 K w0 w) : ∀ k, K k → k < w.heap.size := by
  obtain ⟨F1, F2, _, _, _, h4, _⟩ := h
  exact fun k hk => (h4 k hk).2.2
theorem Pair.factsR (h : Pair base (RSq base g most) Q2 L L2 K w0 w) : Fit L ∧ (L.length : Int) ≤ most ∧ most ≤ 1048576 := by
  obtain ⟨F1, F2, ⟨sv, _, _, _, _, h5, h6, h7⟩, _⟩ := h
  exact ⟨h6, h7, h5⟩
/-- A cell of a kept block is turned. -/
theorem Pair.setK (g1 : Good base Q1) (g2 : Good base Q2) (h : Pair base Q1 Q2 L1 L2 K w0 w) {b : Nat} (hk : K b) (hb : base ≤ b) (v : Value) : Pair base Q1 Q2 L1 L2 K w0 (w.setCell ⟨b, 0, none⟩ v) := by
  obtain ⟨F1, F2, h1, h2, h3, h4, h5, h6⟩ := h
  have C := Chg.setCell w b 0 v
  exact ⟨F1, F2, g1.frame h1 C (fun k a e => (h4 b hk).1 (e ▸ a)), g2.frame h2 C (fun k a e => (h4 b hk).2.1 (e ▸ a)), h3, fun k q => ⟨(h4 k q).1, (h4 k q).2.1, by simp; exact (h4 k q).2.2⟩, h5, h6.setCell hb v⟩

set_option maxHeartbeats 400000 in
theorem Pair.hashP {L' : List Tm} {a e x y : Int} (g2 : Good base Q2) (h : Pair base (PSq base g most) Q2 L L2 K w0 w) (hx : I64 x) (hy : I64 y) (hf : putF L most (hashT x y) = (a, e, L')) :
    Calls Try.prog 10 #[.pointer (some ⟨g, 0, none⟩), .int .i64 x, .int .i64 y] w (TwoK (.int .i64 a) (.int .i64 e) (Pair base (PSq base g most) Q2 L' L2 K w0) K w) := by
  have H := Lib.hid h
  have HX := Lib.hid hx
  have HY := Lib.hid hy
  have HF := Lib.hid hf
  clear h hx hy hf
  go_enter Try.func10, Try.ntmps10
  go_wp2_with fail
  refine (H.out.putP g2 (hashT x y) (hash_wf HX.out HY.out) HF.out).mono ?_
  rintro e w1 ⟨rfl, h1, hk⟩
  have H1 := Lib.hid h1
  have HK := Lib.hid hk
  clear h1 hk H HF
  go_wp2_with fail
  go_ret2
  exact ⟨rfl, H1.out, HK.out⟩

set_option maxHeartbeats 400000 in
theorem Pair.deriveP {L' : List Tm} {a e x n : Int} (g2 : Good base Q2) (h : Pair base (PSq base g most) Q2 L L2 K w0 w) (hx : I64 x) (hy : U64 n) (hf : putF L most (keyT x n) = (a, e, L')) :
    Calls Try.prog 12 #[.pointer (some ⟨g, 0, none⟩), .int .i64 x, .int .u64 n] w (TwoK (.int .i64 a) (.int .i64 e) (Pair base (PSq base g most) Q2 L' L2 K w0) K w) := by
  have H := Lib.hid h
  have HX := Lib.hid hx
  have HY := Lib.hid hy
  have HF := Lib.hid hf
  clear h hx hy hf
  go_enter Try.func12, Try.ntmps12
  go_wp2_with fail
  refine (H.out.putP g2 (keyT x n) (key_wf HX.out HY.out) HF.out).mono ?_
  rintro e w1 ⟨rfl, h1, hk⟩
  have H1 := Lib.hid h1
  have HK := Lib.hid hk
  clear h1 hk H HF
  go_wp2_with fail
  go_ret2
  exact ⟨rfl, H1.out, HK.out⟩

set_option maxHeartbeats 2000000 in
theorem Pair.mixP {L' : List Tm} {a b e x i : Int} (g2 : Good base Q2) (h : Pair base (PSq base g most) Q2 L L2 K w0 w) (hx : I64 x) (hi : I64 i) (hf : mixF L most x i = (a, b, e, L')) :
    Calls Try.prog 14 #[.pointer (some ⟨g, 0, none⟩), .int .i64 x, .int .i64 i] w (Three (.int .i64 a) (.int .i64 b) (.int .i64 e) (Pair base (PSq base g most) Q2 L' L2 K w0) K w) := by
  obtain ⟨n1, f1, M1, q1⟩ : ∃ n f M, putF L most (hashT x i) = (n, f, M) := ⟨_, _, _, rfl⟩
  obtain ⟨n2, f2, M2, q2⟩ : ∃ n f M, putF M1 most (keyT n1 1) = (n, f, M) := ⟨_, _, _, rfl⟩
  obtain ⟨n3, f3, M3, q3⟩ : ∃ n f M, putF M2 most (keyT n1 2) = (n, f, M) := ⟨_, _, _, rfl⟩
  have HN1 := Lib.hid (name_i64 h.facts.2.1 h.facts.2.2 q1)
  have H := Lib.hid h
  have HX := Lib.hid hx
  have HI := Lib.hid hi
  have HF := Lib.hid hf
  have Q1 := Lib.hid q1
  have Q2' := Lib.hid q2
  have Q3 := Lib.hid q3
  clear h hx hi hf q1 q2 q3
  by_cases he1 : f1 = 0
  · subst he1
    by_cases he2 : f2 = 0
    · subst he2
      by_cases he3 : f3 = 0
      · subst he3
        have hw := HF.out
        rw [mix_yes Q1.out Q2'.out Q3.out] at hw
        injection hw with e1 hw
        injection hw with e2 hw
        injection hw with e3 e4
        subst e1 e2 e3 e4
        clear HF
        go_enter Try.func14, Try.ntmps14
        go_wp2_with fail
        refine (H.out.hashP g2 HX.out HI.out Q1.out).mono ?_
        rintro e w1 ⟨rfl, hp, hk⟩
        have H1 := Lib.hid hp
        have HK1 := Lib.hid (hk)
        clear hp hk H
        go_wp2_with fail
        refine (H1.out.deriveP g2 HN1.out u1 Q2'.out).mono ?_
        rintro e w2 ⟨rfl, hp, hk⟩
        have H2 := Lib.hid hp
        have HK2 := Lib.hid (show ∀ k, K k → w2.heap[k]? = w.heap[k]? from fun k q => (hk k q).trans (HK1.out k q))
        clear hp hk H1 HK1
        go_wp2_with fail
        refine (H2.out.deriveP g2 HN1.out u2 Q3.out).mono ?_
        rintro e w3 ⟨rfl, hp, hk⟩
        have H3 := Lib.hid hp
        have HK3 := Lib.hid (show ∀ k, K k → w3.heap[k]? = w.heap[k]? from fun k q => (hk k q).trans (HK2.out k q))
        clear hp hk H2 HK2
        go_wp2_with fail
        go_ret3
        exact ⟨rfl, H3.out, HK3.out⟩
      · have hne : (f3 != 0) = true := by simpa using he3
        have HE := Lib.hid he3
        clear he3
        have hw := HF.out
        rw [mix_no3 Q1.out Q2'.out Q3.out HE.out] at hw
        injection hw with e1 hw
        injection hw with e2 hw
        injection hw with e3 e4
        subst e1 e2 e3 e4
        clear HF
        go_enter Try.func14, Try.ntmps14
        go_wp2_with fail
        refine (H.out.hashP g2 HX.out HI.out Q1.out).mono ?_
        rintro e w1 ⟨rfl, hp, hk⟩
        have H1 := Lib.hid hp
        have HK1 := Lib.hid (hk)
        clear hp hk H
        go_wp2_with fail
        refine (H1.out.deriveP g2 HN1.out u1 Q2'.out).mono ?_
        rintro e w2 ⟨rfl, hp, hk⟩
        have H2 := Lib.hid hp
        have HK2 := Lib.hid (show ∀ k, K k → w2.heap[k]? = w.heap[k]? from fun k q => (hk k q).trans (HK1.out k q))
        clear hp hk H1 HK1
        go_wp2_with fail
        refine (H2.out.deriveP g2 HN1.out u2 Q3.out).mono ?_
        rintro e w3 ⟨rfl, hp, hk⟩
        have H3 := Lib.hid hp
        have HK3 := Lib.hid (show ∀ k, K k → w3.heap[k]? = w.heap[k]? from fun k q => (hk k q).trans (HK2.out k q))
        clear hp hk H2 HK2
        go_wp2_with fail
        go_ret3
        exact ⟨rfl, H3.out, HK3.out⟩
    · have hne : (f2 != 0) = true := by simpa using he2
      have HE := Lib.hid he2
      clear he2
      have hw := HF.out
      rw [mix_no2 Q1.out Q2'.out HE.out] at hw
      injection hw with e1 hw
      injection hw with e2 hw
      injection hw with e3 e4
      subst e1 e2 e3 e4
      clear HF
      go_enter Try.func14, Try.ntmps14
      go_wp2_with fail
      refine (H.out.hashP g2 HX.out HI.out Q1.out).mono ?_
      rintro e w1 ⟨rfl, hp, hk⟩
      have H1 := Lib.hid hp
      have HK1 := Lib.hid (hk)
      clear hp hk H
      go_wp2_with fail
      refine (H1.out.deriveP g2 HN1.out u1 Q2'.out).mono ?_
      rintro e w2 ⟨rfl, hp, hk⟩
      have H2 := Lib.hid hp
      have HK2 := Lib.hid (show ∀ k, K k → w2.heap[k]? = w.heap[k]? from fun k q => (hk k q).trans (HK1.out k q))
      clear hp hk H1 HK1
      go_wp2_with fail
      go_ret3
      exact ⟨rfl, H2.out, HK2.out⟩
  · have hne : (f1 != 0) = true := by simpa using he1
    have HE := Lib.hid he1
    clear he1
    have hw := HF.out
    rw [mix_no1 Q1.out HE.out] at hw
    injection hw with e1 hw
    injection hw with e2 hw
    injection hw with e3 e4
    subst e1 e2 e3 e4
    clear HF
    go_enter Try.func14, Try.ntmps14
    go_wp2_with fail
    refine (H.out.hashP g2 HX.out HI.out Q1.out).mono ?_
    rintro e w1 ⟨rfl, hp, hk⟩
    have H1 := Lib.hid hp
    have HK1 := Lib.hid (hk)
    clear hp hk H
    go_wp2_with fail
    go_ret3
    exact ⟨rfl, H1.out, HK1.out⟩

set_option maxHeartbeats 400000 in
theorem Pair.hashR {L' : List Tm} {a e x y : Int} (g2 : Good base Q2) (h : Pair base (RSq base g most) Q2 L L2 K w0 w) (hx : I64 x) (hy : I64 y) (hf : putF L most (hashT x y) = (a, e, L')) :
    Calls Try.prog 11 #[.pointer (some ⟨g, 0, none⟩), .int .i64 x, .int .i64 y] w (TwoK (.int .i64 a) (.int .i64 e) (Pair base (RSq base g most) Q2 L' L2 K w0) K w) := by
  have H := Lib.hid h
  have HX := Lib.hid hx
  have HY := Lib.hid hy
  have HF := Lib.hid hf
  clear h hx hy hf
  go_enter Try.func11, Try.ntmps11
  go_wp2_with fail
  refine (H.out.putR g2 (hashT x y) (hash_wf HX.out HY.out) HF.out).mono ?_
  rintro e w1 ⟨rfl, h1, hk⟩
  have H1 := Lib.hid h1
  have HK := Lib.hid hk
  clear h1 hk H HF
  go_wp2_with fail
  go_ret2
  exact ⟨rfl, H1.out, HK.out⟩

set_option maxHeartbeats 400000 in
theorem Pair.deriveR {L' : List Tm} {a e x n : Int} (g2 : Good base Q2) (h : Pair base (RSq base g most) Q2 L L2 K w0 w) (hx : I64 x) (hy : U64 n) (hf : putF L most (keyT x n) = (a, e, L')) :
    Calls Try.prog 13 #[.pointer (some ⟨g, 0, none⟩), .int .i64 x, .int .u64 n] w (TwoK (.int .i64 a) (.int .i64 e) (Pair base (RSq base g most) Q2 L' L2 K w0) K w) := by
  have H := Lib.hid h
  have HX := Lib.hid hx
  have HY := Lib.hid hy
  have HF := Lib.hid hf
  clear h hx hy hf
  go_enter Try.func13, Try.ntmps13
  go_wp2_with fail
  refine (H.out.putR g2 (keyT x n) (key_wf HX.out HY.out) HF.out).mono ?_
  rintro e w1 ⟨rfl, h1, hk⟩
  have H1 := Lib.hid h1
  have HK := Lib.hid hk
  clear h1 hk H HF
  go_wp2_with fail
  go_ret2
  exact ⟨rfl, H1.out, HK.out⟩

set_option maxHeartbeats 2000000 in
theorem Pair.mixR {L' : List Tm} {a b e x i : Int} (g2 : Good base Q2) (h : Pair base (RSq base g most) Q2 L L2 K w0 w) (hx : I64 x) (hi : I64 i) (hf : mixF L most x i = (a, b, e, L')) :
    Calls Try.prog 15 #[.pointer (some ⟨g, 0, none⟩), .int .i64 x, .int .i64 i] w (Three (.int .i64 a) (.int .i64 b) (.int .i64 e) (Pair base (RSq base g most) Q2 L' L2 K w0) K w) := by
  obtain ⟨n1, f1, M1, q1⟩ : ∃ n f M, putF L most (hashT x i) = (n, f, M) := ⟨_, _, _, rfl⟩
  obtain ⟨n2, f2, M2, q2⟩ : ∃ n f M, putF M1 most (keyT n1 1) = (n, f, M) := ⟨_, _, _, rfl⟩
  obtain ⟨n3, f3, M3, q3⟩ : ∃ n f M, putF M2 most (keyT n1 2) = (n, f, M) := ⟨_, _, _, rfl⟩
  have HN1 := Lib.hid (name_i64 h.factsR.2.1 h.factsR.2.2 q1)
  have H := Lib.hid h
  have HX := Lib.hid hx
  have HI := Lib.hid hi
  have HF := Lib.hid hf
  have Q1 := Lib.hid q1
  have Q2' := Lib.hid q2
  have Q3 := Lib.hid q3
  clear h hx hi hf q1 q2 q3
  by_cases he1 : f1 = 0
  · subst he1
    by_cases he2 : f2 = 0
    · subst he2
      by_cases he3 : f3 = 0
      · subst he3
        have hw := HF.out
        rw [mix_yes Q1.out Q2'.out Q3.out] at hw
        injection hw with e1 hw
        injection hw with e2 hw
        injection hw with e3 e4
        subst e1 e2 e3 e4
        clear HF
        go_enter Try.func15, Try.ntmps15
        go_wp2_with fail
        refine (H.out.hashR g2 HX.out HI.out Q1.out).mono ?_
        rintro e w1 ⟨rfl, hp, hk⟩
        have H1 := Lib.hid hp
        have HK1 := Lib.hid (hk)
        clear hp hk H
        go_wp2_with fail
        refine (H1.out.deriveR g2 HN1.out u1 Q2'.out).mono ?_
        rintro e w2 ⟨rfl, hp, hk⟩
        have H2 := Lib.hid hp
        have HK2 := Lib.hid (show ∀ k, K k → w2.heap[k]? = w.heap[k]? from fun k q => (hk k q).trans (HK1.out k q))
        clear hp hk H1 HK1
        go_wp2_with fail
        refine (H2.out.deriveR g2 HN1.out u2 Q3.out).mono ?_
        rintro e w3 ⟨rfl, hp, hk⟩
        have H3 := Lib.hid hp
        have HK3 := Lib.hid (show ∀ k, K k → w3.heap[k]? = w.heap[k]? from fun k q => (hk k q).trans (HK2.out k q))
        clear hp hk H2 HK2
        go_wp2_with fail
        go_ret3
        exact ⟨rfl, H3.out, HK3.out⟩
      · have hne : (f3 != 0) = true := by simpa using he3
        have HE := Lib.hid he3
        clear he3
        have hw := HF.out
        rw [mix_no3 Q1.out Q2'.out Q3.out HE.out] at hw
        injection hw with e1 hw
        injection hw with e2 hw
        injection hw with e3 e4
        subst e1 e2 e3 e4
        clear HF
        go_enter Try.func15, Try.ntmps15
        go_wp2_with fail
        refine (H.out.hashR g2 HX.out HI.out Q1.out).mono ?_
        rintro e w1 ⟨rfl, hp, hk⟩
        have H1 := Lib.hid hp
        have HK1 := Lib.hid (hk)
        clear hp hk H
        go_wp2_with fail
        refine (H1.out.deriveR g2 HN1.out u1 Q2'.out).mono ?_
        rintro e w2 ⟨rfl, hp, hk⟩
        have H2 := Lib.hid hp
        have HK2 := Lib.hid (show ∀ k, K k → w2.heap[k]? = w.heap[k]? from fun k q => (hk k q).trans (HK1.out k q))
        clear hp hk H1 HK1
        go_wp2_with fail
        refine (H2.out.deriveR g2 HN1.out u2 Q3.out).mono ?_
        rintro e w3 ⟨rfl, hp, hk⟩
        have H3 := Lib.hid hp
        have HK3 := Lib.hid (show ∀ k, K k → w3.heap[k]? = w.heap[k]? from fun k q => (hk k q).trans (HK2.out k q))
        clear hp hk H2 HK2
        go_wp2_with fail
        go_ret3
        exact ⟨rfl, H3.out, HK3.out⟩
    · have hne : (f2 != 0) = true := by simpa using he2
      have HE := Lib.hid he2
      clear he2
      have hw := HF.out
      rw [mix_no2 Q1.out Q2'.out HE.out] at hw
      injection hw with e1 hw
      injection hw with e2 hw
      injection hw with e3 e4
      subst e1 e2 e3 e4
      clear HF
      go_enter Try.func15, Try.ntmps15
      go_wp2_with fail
      refine (H.out.hashR g2 HX.out HI.out Q1.out).mono ?_
      rintro e w1 ⟨rfl, hp, hk⟩
      have H1 := Lib.hid hp
      have HK1 := Lib.hid (hk)
      clear hp hk H
      go_wp2_with fail
      refine (H1.out.deriveR g2 HN1.out u1 Q2'.out).mono ?_
      rintro e w2 ⟨rfl, hp, hk⟩
      have H2 := Lib.hid hp
      have HK2 := Lib.hid (show ∀ k, K k → w2.heap[k]? = w.heap[k]? from fun k q => (hk k q).trans (HK1.out k q))
      clear hp hk H1 HK1
      go_wp2_with fail
      go_ret3
      exact ⟨rfl, H2.out, HK2.out⟩
  · have hne : (f1 != 0) = true := by simpa using he1
    have HE := Lib.hid he1
    clear he1
    have hw := HF.out
    rw [mix_no1 Q1.out HE.out] at hw
    injection hw with e1 hw
    injection hw with e2 hw
    injection hw with e3 e4
    subst e1 e2 e3 e4
    clear HF
    go_enter Try.func15, Try.ntmps15
    go_wp2_with fail
    refine (H.out.hashR g2 HX.out HI.out Q1.out).mono ?_
    rintro e w1 ⟨rfl, hp, hk⟩
    have H1 := Lib.hid hp
    have HK1 := Lib.hid (hk)
    clear hp hk H
    go_wp2_with fail
    go_ret3
    exact ⟨rfl, H1.out, HK1.out⟩

def Tri (B : Nat) : Nat → Prop := fun k => k = B ∨ k = B + 1 ∨ k = B + 1 + 1
def Kt (K : Nat → Prop) (B : Nat) : Nat → Prop := fun k => K k ∨ Tri B k
/-- What the closure holds: the store, the key told last, the label. -/
def Hold (B g : Nat) (k n : Int) (w : World) : Prop :=
  w.heap[B]? = some (.cells #[.pointer (some ⟨g, 0, none⟩)] 24 (0, 0)) ∧ w.heap[B + 1]? = some (.cells #[.int .i64 k] 3 (0, 0)) ∧ w.heap[B + 1 + 1]? = some (.cells #[.int .u64 n] 34 (0, 0))

set_option maxHeartbeats 400000 in
theorem Pair.followP {x n : Int} {B : Nat} (g2 : Good base Q2) (hB : B = w.heap.size) (h : Pair base (PSq base g most) Q2 L L2 K w0 w) :
    Calls Try.prog 28 #[.pointer (some ⟨g, 0, none⟩), .int .i64 x, .int .u64 n] w fun e w' =>
      e = .returned (.func (.func 34) #[] #[.pointer (some ⟨B, 0, none⟩), .pointer (some ⟨B + 1, 0, none⟩), .pointer (some ⟨B + 1 + 1, 0, none⟩)]) ∧
      Pair base (PSq base g most) Q2 L L2 (Kt K B) w0 w' ∧ Hold B g x n w' ∧ ∀ j, K j → w'.heap[j]? = w.heap[j]? := by
  subst hB
  have gP := PSq.good base g most
  have HKl := Lib.hid h.klt
  have hmf : ∀ (fn : Fn) (first cap : Array Value) (w : World), (Instr.makeFunc fn first cap).run Try.prog w = .ok (.func fn first cap) w := fun _ _ _ _ => rfl
  have HB := Lib.hid (((h.box gP g2 (.cells #[.pointer (some ⟨g, 0, none⟩)] 24)).box gP g2 (.cells #[.int .i64 x] 3)).box gP g2 (.cells #[.int .u64 n] 34))
  have hbb : Below w.heap.size w (((w.alloc (.cells #[.pointer (some ⟨g, 0, none⟩)] 24)).alloc (.cells #[.int .i64 x] 3)).alloc (.cells #[.int .u64 n] 34)) := (((Below.refl _ _).alloc (Nat.le_refl _) _).alloc (by simp) _).alloc (by simp; omega) _
  have HBB := Lib.hid hbb
  clear h hbb
  go_enter Try.func28, Try.ntmps28
  go_wp2
  go_ret
  refine ⟨rfl, HB.out.less ?_, ⟨?_, ?_, ?_⟩, fun j q => HBB.out.block j (HKl.out j q)⟩
  · rintro k (q | q | q | q)
    · exact .inl (.inl (.inl q))
    · exact .inl (.inl (.inr q))
    · exact .inl (.inr (by rw [q]; simp))
    · exact .inr (by rw [q]; simp)
  · rw [heap_alloc_old _ _ (by simp; omega), heap_alloc_old _ _ (by simp)]
    exact heap_alloc_new w _
  · rw [heap_alloc_old _ _ (by simp)]
    have := heap_alloc_new (w.alloc (.cells #[.pointer (some ⟨g, 0, none⟩)] 24)) (.cells #[.int .i64 x] 3)
    simpa using this
  · have := heap_alloc_new ((w.alloc (.cells #[.pointer (some ⟨g, 0, none⟩)] 24)).alloc (.cells #[.int .i64 x] 3)) (.cells #[.int .u64 n] 34)
    simpa using this

set_option maxHeartbeats 1000000 in
theorem Pair.stepP {L' : List Tm} {a e x n : Int} {B : Nat} (g2 : Good base Q2) (hB : base ≤ B) (hKB : ∀ j, K j → j < B) (h : Pair base (PSq base g most) Q2 L L2 (Kt K B) w0 w) (hh : Hold B g x n w) (hx : I64 x) (hn : U64 n) (hf : putF L most (keyT x n) = (a, e, L')) :
    Calls Try.prog 34 #[.pointer (some ⟨B, 0, none⟩), .pointer (some ⟨B + 1, 0, none⟩), .pointer (some ⟨B + 1 + 1, 0, none⟩)] w fun e' w' =>
      e' = .returned (.tuple #[.int .i64 a, .int .i64 e]) ∧ Pair base (PSq base g most) Q2 L' L2 (Kt K B) w0 w' ∧ Hold B g a n w' ∧ ∀ j, K j → w'.heap[j]? = w.heap[j]? := by
  have gP := PSq.good base g most
  have H := Lib.hid h
  have HH := Lib.hid hh
  have HKB := Lib.hid hKB
  have HX := Lib.hid hx
  have HN := Lib.hid hn
  have HF := Lib.hid hf
  have HBs := Lib.hid hB
  have c0 := cell_of_one hh.1
  have c1 := cell_of_one hh.2.1
  have c2 := cell_of_one hh.2.2
  clear h hh hKB hx hn hf hB
  go_enter Try.func34, Try.ntmps34
  go_wp2_with fail
  refine (H.out.deriveP g2 HX.out HN.out HF.out).mono ?_
  rintro e w1 ⟨rfl, hp, hk⟩
  have HH1 : Hid (Hold B g x n w1) := Lib.hid ⟨(hk B (.inr (.inl rfl))).trans HH.out.1, (hk (B + 1) (.inr (.inr (.inl rfl)))).trans HH.out.2.1, (hk (B + 1 + 1) (.inr (.inr (.inr rfl)))).trans HH.out.2.2⟩
  have H1 := Lib.hid hp
  have HK1 := Lib.hid hk
  have d1 := cell_of_one HH1.out.2.1
  have f1 := free_of_one HH1.out.2.1
  clear c0 c1 c2 hp hk H
  go_wp2
  go_ret2
  have hB := HBs.out
  refine ⟨rfl, H1.out.setK gP g2 (.inr (.inr (.inl rfl))) (by omega) _, ⟨?_, ?_, ?_⟩, fun j q => ?_⟩
  · rw [heap_setCell_other _ _ _ _ (by dsimp only; omega)]; exact HH1.out.1
  · exact one_setCell HH1.out.2.1
  · rw [heap_setCell_other _ _ _ _ (by dsimp only; omega)]; exact HH1.out.2.2
  · have := HKB.out j q
    rw [heap_setCell_other _ _ _ _ (by dsimp only; omega)]; exact HK1.out j (.inl q)

set_option maxHeartbeats 2000000 in
theorem Pair.chainP {L' : List Tm} {a e x n t : Int} (g2 : Good base Q2) (h : Pair base (PSq base g most) Q2 L L2 K w0 w) (hx : I64 x) (hn : U64 n) (hf : chainF L most x n t = (a, e, L')) :
    Calls Try.prog 16 #[.pointer (some ⟨g, 0, none⟩), .int .i64 x, .int .u64 n, .int .i64 t] w (TwoK (.int .i64 a) (.int .i64 e) (Pair base (PSq base g most) Q2 L' L2 K w0) K w) := by
  have gS := PSq.good base g most
  have HKl := Lib.hid h.klt
  obtain ⟨⟨⟨TK, TS, TN, TA, TB, TC⟩, ok⟩, hg⟩ : ∃ y, getT L x = y := ⟨_, rfl⟩
  have H := Lib.hid h
  have HG := Lib.hid hg
  have HX := Lib.hid hx
  have HN := Lib.hid hn
  have HF := Lib.hid hf
  clear h hx hn hf hg
  cases ok with
  | false =>
    have hw := HF.out
    rw [show chainF L most x n t = (0, 1, L) by simp [chainF, HG.out]] at hw
    injection hw with e1 hw
    injection hw with e2 e3
    subst e1 e2 e3
    clear HF
    go_enter Try.func16, Try.ntmps16
    go_wp2_with fail
    refine (H.out.getP g2 x HG.out).mono ?_
    rintro e w1 ⟨rfl, hp, hb⟩
    rw [show ((⟨TK, TS, TN, TA, TB, TC⟩, false) : Tm × Bool).1.v = .agg #[.int .i64 TK, .string TS, .int .u64 TN, .int .i64 TA, .int .i64 TB, .int .i64 TC] from rfl]
    have H1 := Lib.hid (hp.below gS g2 ((Below.refl _ _).alloc (Nat.le_refl _) (.cells #[.int .i64 TK, .string TS, .int .u64 TN, .int .i64 TA, .int .i64 TB, .int .i64 TC] 50)))
    have hbb := hb.alloc hb.size (.cells #[.int .i64 TK, .string TS, .int .u64 TN, .int .i64 TA, .int .i64 TB, .int .i64 TC] 50)
    have HK1 := Lib.hid (show ∀ k, K k → (w1.alloc (.cells #[.int .i64 TK, .string TS, .int .u64 TN, .int .i64 TA, .int .i64 TB, .int .i64 TC] 50)).heap[k]? = w.heap[k]? from fun k q => hbb.block k (HKl.out k q))
    clear hp hb hbb H
    go_wp2
    go_ret2
    exact ⟨rfl, H1.out, HK1.out⟩
  | true =>
    by_cases h0 : 0 ≤ t
    · have hd0 : decide (t < 0) = false := by simpa using h0
      by_cases h1 : t ≤ 1000
      · have hd1 : decide (1000 < t) = false := by simpa using h1
        obtain ⟨m, rfl⟩ : ∃ m : Nat, t = m := ⟨t.toNat, by omega⟩
        have hc : chainN n most m L x = (a, e, L') := by have := HF.out; rw [chainF, if_pos ⟨by rw [HG.out], h0, h1⟩] at this; exact this
        have HC := Lib.hid hc
        have hm1 : m ≤ 1000 := by omega
        clear HF hc h0 h1
        go_enter Try.func16, Try.ntmps16
        go_wp2_with fail
        refine (H.out.getP g2 x HG.out).mono ?_
        rintro e w1 ⟨rfl, hp, hb⟩
        rw [show ((⟨TK, TS, TN, TA, TB, TC⟩, true) : Tm × Bool).1.v = .agg #[.int .i64 TK, .string TS, .int .u64 TN, .int .i64 TA, .int .i64 TB, .int .i64 TC] from rfl]
        have H1 := Lib.hid (hp.below gS g2 ((Below.refl _ _).alloc (Nat.le_refl _) (.cells #[.int .i64 TK, .string TS, .int .u64 TN, .int .i64 TA, .int .i64 TB, .int .i64 TC] 50)))
        have hbb := hb.alloc hb.size (.cells #[.int .i64 TK, .string TS, .int .u64 TN, .int .i64 TA, .int .i64 TB, .int .i64 TC] 50)
        have HK1 := Lib.hid (show ∀ k, K k → (w1.alloc (.cells #[.int .i64 TK, .string TS, .int .u64 TN, .int .i64 TA, .int .i64 TB, .int .i64 TC] 50)).heap[k]? = w.heap[k]? from fun k q => hbb.block k (HKl.out k q))
        clear hp hb hbb H
        obtain ⟨B, hB⟩ : ∃ B, B = (w1.alloc (.cells #[.int .i64 TK, .string TS, .int .u64 TN, .int .i64 TA, .int .i64 TB, .int .i64 TC] 50)).heap.size := ⟨_, rfl⟩
        have HKB := Lib.hid (show ∀ j, K j → j < B from fun j q => by rw [hB]; exact H1.out.klt j q)
        have HBs := Lib.hid (show base ≤ B by rw [hB]; exact H1.out.base_le)
        have HBe := Lib.hid hB
        clear hB
        go_wp2_with fail
        refine (H1.out.followP g2 HBe.out).mono ?_
        rintro e w2 ⟨rfl, hp, hh, hk⟩
        have HP0 := Lib.hid hp
        have HH0 := Lib.hid hh
        have HK0 := Lib.hid (show ∀ j, K j → w2.heap[j]? = w.heap[j]? from fun j q => (hk j q).trans (HK1.out j q))
        clear hp hh hk H1 HK1 HBe
        go_wp2_with fail
        go_loopw [12, 37] (fun l i wr => ∃ j r : Nat, ∃ y : Int, ∃ M : List Tm, j + r = m ∧ l = .int .i64 y ∧ i = .int .i64 (j : Nat) ∧ Hid (I64 y) ∧ Hid (chainN n most r M y = (a, e, L')) ∧ Hid (Pair base (PSq base g most) Q2 M L2 (Kt K B) w0 wr) ∧ Hid (Hold B g y n wr) ∧ Hid (∀ j, K j → wr.heap[j]? = w.heap[j]?)) (fun _ i _ => m - (intOf i).toNat)
        case atStart => exact ⟨0, m, x, L, by omega, rfl, rfl, HX, HC, HP0, HH0, HK0⟩
        case round =>
          clear HP0 HH0 HK0 HC
          obtain ⟨j, r, y, M, hjr, rfl, rfl, HY, HC, HP, HH, HK⟩ := hrel
          cases r with
          | zero =>
            have hw := HC.out
            rw [chain_zero] at hw
            injection hw with e1 hw
            injection hw with e2 e3
            subst e1 e2 e3
            have hd : decide (j < m) = false := by simp; omega
            have HP' := Lib.hid (HP.out.less (K' := K) (fun k q => .inl q))
            clear HC HP HH hjr
            go_wp2
            go_ret2
            exact ⟨rfl, HP'.out, HK.out⟩
          | succ r =>
            have hlt : (j : Int) < (m : Int) := by omega
            obtain ⟨z, f, N, hp⟩ : ∃ z f N, putF M most (keyT y n) = (z, f, N) := ⟨_, _, _, rfl⟩
            have HPF := Lib.hid hp
            have HZ := Lib.hid (name_i64 HP.out.facts.2.1 HP.out.facts.2.2 hp)
            have HJR := Lib.hid hjr
            clear hp hjr
            by_cases hf0 : f = 0
            · subst hf0
              have HC' := Lib.hid (show chainN n most r N z = (a, e, L') by rw [← HC.out, chain_yes HPF.out])
              clear HC
              go_wp2_with fail
              refine (HP.out.stepP g2 HBs.out HKB.out HH.out HY.out HN.out HPF.out).mono ?_
              rintro e1 w3 ⟨rfl, hp, hh, hk⟩
              have HP3 := Lib.hid hp
              have HH3 := Lib.hid hh
              have HK3 := Lib.hid (show ∀ j, K j → w3.heap[j]? = w.heap[j]? from fun j q => (hk j q).trans (HK.out j q))
              clear hp hh hk HP HH HK
              go_wp2_with fail
              go_roundw
              case rel => exact ⟨j + 1, r, z, N, by have := HJR.out; omega, rfl, by go_num, HZ, HC', HP3, HH3, HK3⟩
              case measure => have := HJR.out; simp [intOf]; omega
            · have hne : (f != 0) = true := by simpa using hf0
              have hw := HC.out
              rw [chain_no HPF.out hf0] at hw
              injection hw with e1 hw
              injection hw with e2 e3
              subst e1 e2 e3
              clear hf0 HC
              go_wp2_with fail
              refine (HP.out.stepP g2 HBs.out HKB.out HH.out HY.out HN.out HPF.out).mono ?_
              rintro e1 w3 ⟨rfl, hp, hh, hk⟩
              have HP3 := Lib.hid (hp.less (K' := K) (fun k q => .inl q))
              have HK3 := Lib.hid (show ∀ j, K j → w3.heap[j]? = w.heap[j]? from fun j q => (hk j q).trans (HK.out j q))
              clear hp hh hk HP HH HK
              go_wp2
              go_ret2
              exact ⟨rfl, HP3.out, HK3.out⟩
      · have hd1 : decide (1000 < t) = true := by simp; omega
        have h2 : 1000 < t := by omega
        have hw := HF.out
        rw [show chainF L most x n t = (0, 1, L) by simp [chainF, h1]] at hw
        injection hw with e1 hw
        injection hw with e2 e3
        subst e1 e2 e3
        clear HF
        go_enter Try.func16, Try.ntmps16
        go_wp2_with fail
        refine (H.out.getP g2 x HG.out).mono ?_
        rintro e w1 ⟨rfl, hp, hb⟩
        rw [show ((⟨TK, TS, TN, TA, TB, TC⟩, true) : Tm × Bool).1.v = .agg #[.int .i64 TK, .string TS, .int .u64 TN, .int .i64 TA, .int .i64 TB, .int .i64 TC] from rfl]
        have H1 := Lib.hid (hp.below gS g2 ((Below.refl _ _).alloc (Nat.le_refl _) (.cells #[.int .i64 TK, .string TS, .int .u64 TN, .int .i64 TA, .int .i64 TB, .int .i64 TC] 50)))
        have hbb := hb.alloc hb.size (.cells #[.int .i64 TK, .string TS, .int .u64 TN, .int .i64 TA, .int .i64 TB, .int .i64 TC] 50)
        have HK1 := Lib.hid (show ∀ k, K k → (w1.alloc (.cells #[.int .i64 TK, .string TS, .int .u64 TN, .int .i64 TA, .int .i64 TB, .int .i64 TC] 50)).heap[k]? = w.heap[k]? from fun k q => hbb.block k (HKl.out k q))
        clear hp hb hbb H
        go_wp2
        go_ret2
        exact ⟨rfl, H1.out, HK1.out⟩
    · have hd0 : decide (t < 0) = true := by simp; omega
      have h2 : t < 0 := by omega
      have hw := HF.out
      rw [show chainF L most x n t = (0, 1, L) by simp [chainF, h0]] at hw
      injection hw with e1 hw
      injection hw with e2 e3
      subst e1 e2 e3
      clear HF
      go_enter Try.func16, Try.ntmps16
      go_wp2_with fail
      refine (H.out.getP g2 x HG.out).mono ?_
      rintro e w1 ⟨rfl, hp, hb⟩
      rw [show ((⟨TK, TS, TN, TA, TB, TC⟩, true) : Tm × Bool).1.v = .agg #[.int .i64 TK, .string TS, .int .u64 TN, .int .i64 TA, .int .i64 TB, .int .i64 TC] from rfl]
      have H1 := Lib.hid (hp.below gS g2 ((Below.refl _ _).alloc (Nat.le_refl _) (.cells #[.int .i64 TK, .string TS, .int .u64 TN, .int .i64 TA, .int .i64 TB, .int .i64 TC] 50)))
      have hbb := hb.alloc hb.size (.cells #[.int .i64 TK, .string TS, .int .u64 TN, .int .i64 TA, .int .i64 TB, .int .i64 TC] 50)
      have HK1 := Lib.hid (show ∀ k, K k → (w1.alloc (.cells #[.int .i64 TK, .string TS, .int .u64 TN, .int .i64 TA, .int .i64 TB, .int .i64 TC] 50)).heap[k]? = w.heap[k]? from fun k q => hbb.block k (HKl.out k q))
      clear hp hb hbb H
      go_wp2
      go_ret2
      exact ⟨rfl, H1.out, HK1.out⟩

set_option maxHeartbeats 2000000 in
theorem Pair.chainNR {n : Int} (g2 : Good base Q2) (hn : U64 n) (m : Nat) : ∀ (L L' : List Tm) (w : World) (a e x t : Int), t = m → m ≤ 1000 → Pair base (RSq base g most) Q2 L L2 K w0 w → I64 x → (1 ≤ x ∧ x ≤ (L.length : Int)) → chainN n most m L x = (a, e, L') →
    Calls Try.prog 17 #[.pointer (some ⟨g, 0, none⟩), .int .i64 x, .int .u64 n, .int .i64 t] w (TwoK (.int .i64 a) (.int .i64 e) (Pair base (RSq base g most) Q2 L' L2 K w0) K w) := by
  have gS := RSq.good base g most
  have HN := Lib.hid hn
  clear hn
  induction m with
  | zero =>
    intro L L' w a e x t ht hm h hx hxl hf
    obtain ⟨⟨TK, TS, TN, TA, TB, TC⟩, hg⟩ := getT_of hxl
    rw [chain_zero] at hf
    injection hf with e1 hf
    injection hf with e2 e3
    subst e1 e2 e3
    obtain rfl : t = 0 := by omega
    have HKl := Lib.hid h.klt
    have H := Lib.hid h
    have HG := Lib.hid hg
    clear h hg hxl hx ht hm
    go_enter Try.func17, Try.ntmps17
    go_wp2_with fail
    refine (H.out.getR g2 x HG.out).mono ?_
    rintro e w1 ⟨rfl, hp, hb⟩
    rw [show ((⟨TK, TS, TN, TA, TB, TC⟩, true) : Tm × Bool).1.v = .agg #[.int .i64 TK, .string TS, .int .u64 TN, .int .i64 TA, .int .i64 TB, .int .i64 TC] from rfl]
    have H1 := Lib.hid (hp.below gS g2 ((Below.refl _ _).alloc (Nat.le_refl _) (.cells #[.int .i64 TK, .string TS, .int .u64 TN, .int .i64 TA, .int .i64 TB, .int .i64 TC] 63)))
    have hbb := hb.alloc hb.size (.cells #[.int .i64 TK, .string TS, .int .u64 TN, .int .i64 TA, .int .i64 TB, .int .i64 TC] 63)
    have HK1 := Lib.hid (show ∀ k, K k → (w1.alloc (.cells #[.int .i64 TK, .string TS, .int .u64 TN, .int .i64 TA, .int .i64 TB, .int .i64 TC] 63)).heap[k]? = w.heap[k]? from fun k q => hbb.block k (HKl.out k q))
    clear hp hb hbb H
    go_wp2
    go_ret2
    exact ⟨rfl, H1.out, HK1.out⟩
  | succ m ih =>
    intro L L' w a e x t ht hm h hx hxl hf
    obtain ⟨⟨TK, TS, TN, TA, TB, TC⟩, hg⟩ := getT_of hxl
    have h1 : 1 ≤ t := by omega
    have h2 : t ≤ 1000 := by omega
    have hd0 : decide (t < 0) = false := by simp; omega
    have hd1 : decide (1000 < t) = false := by simp; omega
    have hz : (t == 0) = false := beq_eq_false_iff_ne.2 (by omega)
    have HKl := Lib.hid h.klt
    obtain ⟨y, f, M, hp⟩ : ∃ y f M, putF L most (keyT x n) = (y, f, M) := ⟨_, _, _, rfl⟩
    have HY := Lib.hid (name_i64 h.factsR.2.1 h.factsR.2.2 hp)
    have H := Lib.hid h
    have HG := Lib.hid hg
    have HX := Lib.hid hx
    have HT := Lib.hid ht
    have HM := Lib.hid hm
    have HPF := Lib.hid hp
    have IH := Lib.hid ih
    clear h hg hxl hx ht hm hp ih
    by_cases hf0 : f = 0
    · subst hf0
      rw [chain_yes HPF.out] at hf
      have HF := Lib.hid hf
      clear hf
      go_enter Try.func17, Try.ntmps17
      go_wp2_with fail
      refine (H.out.getR g2 x HG.out).mono ?_
      rintro e w1 ⟨rfl, hp, hb⟩
      rw [show ((⟨TK, TS, TN, TA, TB, TC⟩, true) : Tm × Bool).1.v = .agg #[.int .i64 TK, .string TS, .int .u64 TN, .int .i64 TA, .int .i64 TB, .int .i64 TC] from rfl]
      have H1 := Lib.hid (hp.below gS g2 ((Below.refl _ _).alloc (Nat.le_refl _) (.cells #[.int .i64 TK, .string TS, .int .u64 TN, .int .i64 TA, .int .i64 TB, .int .i64 TC] 63)))
      have hbb := hb.alloc hb.size (.cells #[.int .i64 TK, .string TS, .int .u64 TN, .int .i64 TA, .int .i64 TB, .int .i64 TC] 63)
      have HK1 := Lib.hid (show ∀ k, K k → (w1.alloc (.cells #[.int .i64 TK, .string TS, .int .u64 TN, .int .i64 TA, .int .i64 TB, .int .i64 TC] 63)).heap[k]? = w.heap[k]? from fun k q => hbb.block k (HKl.out k q))
      clear hp hb hbb H
      go_wp2_with fail
      refine (H1.out.deriveR g2 HX.out HN.out HPF.out).mono ?_
      rintro e w2 ⟨rfl, hp, hk⟩
      have H2 := Lib.hid hp
      have HK2 := Lib.hid (show ∀ j, K j → w2.heap[j]? = w.heap[j]? from fun j q => (hk j q).trans (HK1.out j q))
      clear hp hk H1 HK1
      go_wp2_with fail
      refine (IH.out _ _ _ _ _ _ _ (by have := HT.out; omega) (by have := HM.out; omega) H2.out HY.out (put_there HPF.out) HF.out).mono ?_
      rintro e w3 ⟨rfl, hp, hk⟩
      have H3 := Lib.hid hp
      have HK3 := Lib.hid (show ∀ j, K j → w3.heap[j]? = w.heap[j]? from fun j q => (hk j q).trans (HK2.out j q))
      clear hp hk H2 HK2
      go_wp2_with fail
      go_ret2
      exact ⟨rfl, H3.out, HK3.out⟩
    · have hne : (f != 0) = true := by simpa using hf0
      rw [chain_no HPF.out hf0] at hf
      injection hf with e1 hf
      injection hf with e2 e3
      subst e1 e2 e3
      clear hf0
      go_enter Try.func17, Try.ntmps17
      go_wp2_with fail
      refine (H.out.getR g2 x HG.out).mono ?_
      rintro e w1 ⟨rfl, hp, hb⟩
      rw [show ((⟨TK, TS, TN, TA, TB, TC⟩, true) : Tm × Bool).1.v = .agg #[.int .i64 TK, .string TS, .int .u64 TN, .int .i64 TA, .int .i64 TB, .int .i64 TC] from rfl]
      have H1 := Lib.hid (hp.below gS g2 ((Below.refl _ _).alloc (Nat.le_refl _) (.cells #[.int .i64 TK, .string TS, .int .u64 TN, .int .i64 TA, .int .i64 TB, .int .i64 TC] 63)))
      have hbb := hb.alloc hb.size (.cells #[.int .i64 TK, .string TS, .int .u64 TN, .int .i64 TA, .int .i64 TB, .int .i64 TC] 63)
      have HK1 := Lib.hid (show ∀ k, K k → (w1.alloc (.cells #[.int .i64 TK, .string TS, .int .u64 TN, .int .i64 TA, .int .i64 TB, .int .i64 TC] 63)).heap[k]? = w.heap[k]? from fun k q => hbb.block k (HKl.out k q))
      clear hp hb hbb H
      go_wp2_with fail
      refine (H1.out.deriveR g2 HX.out HN.out HPF.out).mono ?_
      rintro e w2 ⟨rfl, hp, hk⟩
      have H2 := Lib.hid hp
      have HK2 := Lib.hid (show ∀ j, K j → w2.heap[j]? = w.heap[j]? from fun j q => (hk j q).trans (HK1.out j q))
      clear hp hk H1 HK1
      go_wp2
      go_ret2
      exact ⟨rfl, H2.out, HK2.out⟩

set_option maxHeartbeats 2000000 in
theorem Pair.chainR {L' : List Tm} {a e x n t : Int} (g2 : Good base Q2) (h : Pair base (RSq base g most) Q2 L L2 K w0 w) (hx : I64 x) (hn : U64 n) (hf : chainF L most x n t = (a, e, L')) :
    Calls Try.prog 17 #[.pointer (some ⟨g, 0, none⟩), .int .i64 x, .int .u64 n, .int .i64 t] w (TwoK (.int .i64 a) (.int .i64 e) (Pair base (RSq base g most) Q2 L' L2 K w0) K w) := by
  have gS := RSq.good base g most
  have HKl := Lib.hid h.klt
  obtain ⟨⟨⟨TK, TS, TN, TA, TB, TC⟩, ok⟩, hg⟩ : ∃ y, getT L x = y := ⟨_, rfl⟩
  have H := Lib.hid h
  have HG := Lib.hid hg
  have HX := Lib.hid hx
  have HN := Lib.hid hn
  have HF := Lib.hid hf
  clear h hx hn hf hg
  cases ok with
  | false =>
    have hw := HF.out
    rw [show chainF L most x n t = (0, 1, L) by simp [chainF, HG.out]] at hw
    injection hw with e1 hw
    injection hw with e2 e3
    subst e1 e2 e3
    clear HF
    go_enter Try.func17, Try.ntmps17
    go_wp2_with fail
    refine (H.out.getR g2 x HG.out).mono ?_
    rintro e w1 ⟨rfl, hp, hb⟩
    rw [show ((⟨TK, TS, TN, TA, TB, TC⟩, false) : Tm × Bool).1.v = .agg #[.int .i64 TK, .string TS, .int .u64 TN, .int .i64 TA, .int .i64 TB, .int .i64 TC] from rfl]
    have H1 := Lib.hid (hp.below gS g2 ((Below.refl _ _).alloc (Nat.le_refl _) (.cells #[.int .i64 TK, .string TS, .int .u64 TN, .int .i64 TA, .int .i64 TB, .int .i64 TC] 63)))
    have hbb := hb.alloc hb.size (.cells #[.int .i64 TK, .string TS, .int .u64 TN, .int .i64 TA, .int .i64 TB, .int .i64 TC] 63)
    have HK1 := Lib.hid (show ∀ k, K k → (w1.alloc (.cells #[.int .i64 TK, .string TS, .int .u64 TN, .int .i64 TA, .int .i64 TB, .int .i64 TC] 63)).heap[k]? = w.heap[k]? from fun k q => hbb.block k (HKl.out k q))
    clear hp hb hbb H
    go_wp2
    go_ret2
    exact ⟨rfl, H1.out, HK1.out⟩
  | true =>
    by_cases h0 : 0 ≤ t
    · have hd0 : decide (t < 0) = false := by simpa using h0
      by_cases h1 : t ≤ 1000
      · have hd1 : decide (1000 < t) = false := by simpa using h1
        obtain ⟨m, hm⟩ : ∃ m : Nat, t = m := ⟨t.toNat, by omega⟩
        have hc : chainN n most m L x = (a, e, L') := by
          have := HF.out
          rw [chainF, if_pos ⟨by rw [HG.out], h0, h1⟩, hm, Int.toNat_natCast] at this
          exact this
        have hl := getT_in HG.out
        exact Pair.chainNR g2 HN.out m _ _ _ _ _ _ _ hm (by omega) H.out HX.out ⟨hl.1, hl.2.1⟩ hc
      · have hd1 : decide (1000 < t) = true := by simp; omega
        have h2 : 1000 < t := by omega
        have hw := HF.out
        rw [show chainF L most x n t = (0, 1, L) by simp [chainF, h1]] at hw
        injection hw with e1 hw
        injection hw with e2 e3
        subst e1 e2 e3
        clear HF
        go_enter Try.func17, Try.ntmps17
        go_wp2_with fail
        refine (H.out.getR g2 x HG.out).mono ?_
        rintro e w1 ⟨rfl, hp, hb⟩
        rw [show ((⟨TK, TS, TN, TA, TB, TC⟩, true) : Tm × Bool).1.v = .agg #[.int .i64 TK, .string TS, .int .u64 TN, .int .i64 TA, .int .i64 TB, .int .i64 TC] from rfl]
        have H1 := Lib.hid (hp.below gS g2 ((Below.refl _ _).alloc (Nat.le_refl _) (.cells #[.int .i64 TK, .string TS, .int .u64 TN, .int .i64 TA, .int .i64 TB, .int .i64 TC] 63)))
        have hbb := hb.alloc hb.size (.cells #[.int .i64 TK, .string TS, .int .u64 TN, .int .i64 TA, .int .i64 TB, .int .i64 TC] 63)
        have HK1 := Lib.hid (show ∀ k, K k → (w1.alloc (.cells #[.int .i64 TK, .string TS, .int .u64 TN, .int .i64 TA, .int .i64 TB, .int .i64 TC] 63)).heap[k]? = w.heap[k]? from fun k q => hbb.block k (HKl.out k q))
        clear hp hb hbb H
        go_wp2
        go_ret2
        exact ⟨rfl, H1.out, HK1.out⟩
    · have hd0 : decide (t < 0) = true := by simp; omega
      have h2 : t < 0 := by omega
      have hw := HF.out
      rw [show chainF L most x n t = (0, 1, L) by simp [chainF, h0]] at hw
      injection hw with e1 hw
      injection hw with e2 e3
      subst e1 e2 e3
      clear HF
      go_enter Try.func17, Try.ntmps17
      go_wp2_with fail
      refine (H.out.getR g2 x HG.out).mono ?_
      rintro e w1 ⟨rfl, hp, hb⟩
      rw [show ((⟨TK, TS, TN, TA, TB, TC⟩, true) : Tm × Bool).1.v = .agg #[.int .i64 TK, .string TS, .int .u64 TN, .int .i64 TA, .int .i64 TB, .int .i64 TC] from rfl]
      have H1 := Lib.hid (hp.below gS g2 ((Below.refl _ _).alloc (Nat.le_refl _) (.cells #[.int .i64 TK, .string TS, .int .u64 TN, .int .i64 TA, .int .i64 TB, .int .i64 TC] 63)))
      have hbb := hb.alloc hb.size (.cells #[.int .i64 TK, .string TS, .int .u64 TN, .int .i64 TA, .int .i64 TB, .int .i64 TC] 63)
      have HK1 := Lib.hid (show ∀ k, K k → (w1.alloc (.cells #[.int .i64 TK, .string TS, .int .u64 TN, .int .i64 TA, .int .i64 TB, .int .i64 TC] 63)).heap[k]? = w.heap[k]? from fun k q => hbb.block k (HKl.out k q))
      clear hp hb hbb H
      go_wp2
      go_ret2
      exact ⟨rfl, H1.out, HK1.out⟩
end
end Go.Proofs.Ytglgobimdghehaa
