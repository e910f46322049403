/- Hashes, keys, what is mixed, and chains: contracts of the program's and the document's calls of layer 6, as functions of a store's terms. -/
import Derived.Test.YtlejejeflgnglaaWords
import Derived.OneCell
namespace Go.Proofs.Ytlejejeflgnglaa
open Go.RowKit
set_option linter.unusedVariables false
set_option linter.unusedSimpArgs false

def hashT (a b : Int) : Tm := ⟨8, ⟨#[]⟩, 0, a, b, 0⟩
def keyT (k n : Int) : Tm := ⟨9, ⟨#[]⟩, n, k, 0, 0⟩
theorem hash_wf {a b : Int} (ha : I64 a) (hb : I64 b) : Wf (hashT a b) := ⟨wf_emp, k8, u0, ha, hb, k0⟩
theorem key_wf {k n : Int} (hk : I64 k) (hn : U64 n) : Wf (keyT k n) := ⟨wf_emp, k9, hn, hk, k0, k0⟩
/-- What is mixed: both keys, or what is wrong, and the terms that are there then. -/
def mixF (L : List Tm) (most k i : Int) : Int × Int × Int × List Tm :=
  if (putF L most (hashT k i)).2.1 ≠ 0 then (0, 0, (putF L most (hashT k i)).2.1, (putF L most (hashT k i)).2.2) else
    let x := putF L most (hashT k i)
    let y := putF x.2.2 most (keyT x.1 1)
    if y.2.1 ≠ 0 then (0, 0, y.2.1, y.2.2) else
      let z := putF y.2.2 most (keyT x.1 2)
      if z.2.1 ≠ 0 then (0, 0, z.2.1, z.2.2) else (y.1, z.1, 0, z.2.2)
theorem mix_no1 {L L1 : List Tm} {most k i a e : Int} (h1 : putF L most (hashT k i) = (a, e, L1)) (he : e ≠ 0) : mixF L most k i = (0, 0, e, L1) := by
  simp [mixF, h1, he]
theorem mix_no2 {L L1 L2 : List Tm} {most k i a b e : Int} (h1 : putF L most (hashT k i) = (a, 0, L1)) (h2 : putF L1 most (keyT a 1) = (b, e, L2)) (he : e ≠ 0) : mixF L most k i = (0, 0, e, L2) := by
  simp [mixF, h1, h2, he]
theorem mix_no3 {L L1 L2 L3 : List Tm} {most k i a b c e : Int} (h1 : putF L most (hashT k i) = (a, 0, L1)) (h2 : putF L1 most (keyT a 1) = (b, 0, L2)) (h3 : putF L2 most (keyT a 2) = (c, e, L3)) (he : e ≠ 0) : mixF L most k i = (0, 0, e, L3) := by
  simp [mixF, h1, h2, h3, he]
theorem mix_yes {L L1 L2 L3 : List Tm} {most k i a b c : Int} (h1 : putF L most (hashT k i) = (a, 0, L1)) (h2 : putF L1 most (keyT a 1) = (b, 0, L2)) (h3 : putF L2 most (keyT a 2) = (c, 0, L3)) : mixF L most k i = (b, c, 0, L3) := by
  simp [mixF, h1, h2, h3]
/-- A chain of so many keys. -/
def chainN (n most : Int) : Nat → List Tm → Int → Int × Int × List Tm
  | 0, L, k => (k, 0, L)
  | t + 1, L, k => if (putF L most (keyT k n)).2.1 ≠ 0 then (0, (putF L most (keyT k n)).2.1, (putF L most (keyT k n)).2.2) else chainN n most t (putF L most (keyT k n)).2.2 (putF L most (keyT k n)).1
theorem chain_zero (n most : Int) (L : List Tm) (k : Int) : chainN n most 0 L k = (k, 0, L) := rfl
theorem chain_no {n most k a e : Int} {t : Nat} {L L1 : List Tm} (h : putF L most (keyT k n) = (a, e, L1)) (he : e ≠ 0) : chainN n most (t + 1) L k = (0, e, L1) := by
  simp [chainN, h, he]
theorem chain_yes {n most k a : Int} {t : Nat} {L L1 : List Tm} (h : putF L most (keyT k n) = (a, 0, L1)) : chainN n most (t + 1) L k = chainN n most t L1 a := by
  simp [chainN, h]
def chainF (L : List Tm) (most k n t : Int) : Int × Int × List Tm := if (getT L k).2 = true ∧ 0 ≤ t ∧ t ≤ 1000 then chainN n most t.toNat L k else (0, 1, L)
theorem name_i64 {L L' : List Tm} {most a e : Int} {t : Tm} (hl : (L.length : Int) ≤ most) (hm : most ≤ 1048576) (h : putF L most t = (a, e, L')) : I64 a := by
  rcases putF_cases L most t with ⟨hp, _⟩ | ⟨j, hj, hp, _⟩ | ⟨hr, hp, _⟩ | ⟨hr, hp, _⟩
  all_goals
    have hh := hp.symm.trans h
    injection hh with a1 a2
    rw [← a1]
  · exact k0
  · exact i64_small (by omega) (by omega)
  · exact k0
  · exact i64_small (by omega) (by omega)
/-- What is put is there. -/
theorem put_there {L L' : List Tm} {most a : Int} {t : Tm} (h : putF L most t = (a, 0, L')) : 1 ≤ a ∧ a ≤ (L'.length : Int) := by
  rcases putF_cases L most t with ⟨hp, _⟩ | ⟨j, hj, hp, _⟩ | ⟨hr, hp, _⟩ | ⟨hr, hp, _⟩
  all_goals
    have hh := hp.symm.trans h
    injection hh with a1 a2
    injection a2 with a2 a3
    subst a3
  · omega
  · omega
  · omega
  · simp; omega
section
variable {base g : Nat} {most : Int} {Q1 Q2 : (Nat → Prop) → List Tm → World → Prop} {L L1 L2 : List Tm} {K : Nat → Prop} {w0 w : World}
theorem Pair.klt (h : Pair base Q1 Q2 L1 L2 K w0 w) : ∀ k, K k → k < w.heap.size := by
  obtain ⟨F1, F2, _, _, _, h4, _⟩ := h
  exact fun k hk => (h4 k hk).2.2
theorem Pair.factsR (h : Pair base (RSq base g most) Q2 L L2 K w0 w) : Fit L ∧ (L.length : Int) ≤ most ∧ most ≤ 1048576 := by
  obtain ⟨F1, F2, ⟨sv, _, _, _, _, h5, h6, h7⟩, _⟩ := h
  exact ⟨h6, h7, h5⟩
/-- A cell of a kept block is turned. -/
theorem Pair.setK (g1 : Good base Q1) (g2 : Good base Q2) (h : Pair base Q1 Q2 L1 L2 K w0 w) {b : Nat} (hk : K b) (hb : base ≤ b) (v : Value) : Pair base Q1 Q2 L1 L2 K w0 (w.setCell ⟨b, 0, none⟩ v) := by
  obtain ⟨F1, F2, h1, h2, h3, h4, h5, h6⟩ := h
  have C := Chg.setCell w b 0 v
  exact ⟨F1, F2, g1.frame h1 C (fun k a e => (h4 b hk).1 (e ▸ a)), g2.frame h2 C (fun k a e => (h4 b hk).2.1 (e ▸ a)), h3, fun k q => ⟨(h4 k q).1, (h4 k q).2.1, by simp; exact (h4 k q).2.2⟩, h5, h6.setCell hb v⟩

set_option maxHeartbeats 400000 in
theorem Pair.hashP {L' : List Tm} {a e x y : Int} (g2 : Good base Q2) (h : Pair base (PSq base g most) Q2 L L2 K w0 w) (hx : I64 x) (hy : I64 y) (hf : putF L most (hashT x y) = (a, e, L')) :
    Calls Try.prog 34 #[.pointer (some ⟨g, 0, none⟩), .int .i64 x, .int .i64 y] w (TwoK (.int .i64 a) (.int .i64 e) (Pair base (PSq base g most) Q2 L' L2 K w0) K w) := by
  have H := Lib.hid h
  have HX := Lib.hid hx
  have HY := Lib.hid hy
  have HF := Lib.hid hf
  clear h hx hy hf
  go_enter Try.func34, Try.ntmps34
  go_wp2_with fail
  refine (H.out.putP g2 (hashT x y) (hash_wf HX.out HY.out) HF.out).mono ?_
  rintro e w1 ⟨rfl, h1, hk⟩
  have H1 := Lib.hid h1
  have HK := Lib.hid hk
  clear h1 hk H HF
  go_wp2_with fail
  go_ret2
  exact ⟨rfl, H1.out, HK.out⟩

set_option maxHeartbeats 400000 in
theorem Pair.deriveP {L' : List Tm} {a e x n : Int} (g2 : Good base Q2) (h : Pair base (PSq base g most) Q2 L L2 K w0 w) (hx : I64 x) (hy : U64 n) (hf : putF L most (keyT x n) = (a, e, L')) :
    Calls Try.prog 51 #[.pointer (some ⟨g, 0, none⟩), .int .i64 x, .int .u64 n] w (TwoK (.int .i64 a) (.int .i64 e) (Pair base (PSq base g most) Q2 L' L2 K w0) K w) := by
  have H := Lib.hid h
  have HX := Lib.hid hx
  have HY := Lib.hid hy
  have HF := Lib.hid hf
  clear h hx hy hf
  go_enter Try.func51, Try.ntmps51
  go_wp2_with fail
  refine (H.out.putP g2 (keyT x n) (key_wf HX.out HY.out) HF.out).mono ?_
  rintro e w1 ⟨rfl, h1, hk⟩
  have H1 := Lib.hid h1
  have HK := Lib.hid hk
  clear h1 hk H HF
  go_wp2_with fail
  go_ret2
  exact ⟨rfl, H1.out, HK.out⟩

set_option maxHeartbeats 2000000 in
theorem Pair.mixP {L' : List Tm} {a b e x i : Int} (g2 : Good base Q2) (h : Pair base (PSq base g most) Q2 L L2 K w0 w) (hx : I64 x) (hi : I64 i) (hf : mixF L most x i = (a, b, e, L')) :
    Calls Try.prog 36 #[.pointer (some ⟨g, 0, none⟩), .int .i64 x, .int .i64 i] w (Three (.int .i64 a) (.int .i64 b) (.int .i64 e) (Pair base (PSq base g most) Q2 L' L2 K w0) K w) := by
  obtain ⟨n1, f1, M1, q1⟩ : ∃ n f M, putF L most (hashT x i) = (n, f, M) := ⟨_, _, _, rfl⟩
  obtain ⟨n2, f2, M2, q2⟩ : ∃ n f M, putF M1 most (keyT n1 1) = (n, f, M) := ⟨_, _, _, rfl⟩
  obtain ⟨n3, f3, M3, q3⟩ : ∃ n f M, putF M2 most (keyT n1 2) = (n, f, M) := ⟨_, _, _, rfl⟩
  have HN1 := Lib.hid (name_i64 h.facts.2.1 h.facts.2.2 q1)
  have H := Lib.hid h
  have HX := Lib.hid hx
  have HI := Lib.hid hi
  have HF := Lib.hid hf
  have Q1 := Lib.hid q1
  have Q2' := Lib.hid q2
  have Q3 := Lib.hid q3
  clear h hx hi hf q1 q2 q3
  by_cases he1 : f1 = 0
  · subst he1
    by_cases he2 : f2 = 0
    · subst he2
      by_cases he3 : f3 = 0
      · subst he3
        have hw := HF.out
        rw [mix_yes Q1.out Q2'.out Q3.out] at hw
        injection hw with e1 hw
        injection hw with e2 hw
        injection hw with e3 e4
        subst e1 e2 e3 e4
        clear HF
        go_enter Try.func36, Try.ntmps36
        go_wp2_with fail
        refine (H.out.hashP g2 HX.out HI.out Q1.out).mono ?_
        rintro e w1 ⟨rfl, hp, hk⟩
        have H1 := Lib.hid hp
        have HK1 := Lib.hid (hk)
        clear hp hk H
        go_wp2_with fail
        refine (H1.out.deriveP g2 HN1.out u1 Q2'.out).mono ?_
        rintro e w2 ⟨rfl, hp, hk⟩
        have H2 := Lib.hid hp
        have HK2 := Lib.hid (show ∀ k, K k → w2.heap[k]? = w.heap[k]? from fun k q => (hk k q).trans (HK1.out k q))
        clear hp hk H1 HK1
        go_wp2_with fail
        refine (H2.out.deriveP g2 HN1.out u2 Q3.out).mono ?_
        rintro e w3 ⟨rfl, hp, hk⟩
        have H3 := Lib.hid hp
        have HK3 := Lib.hid (show ∀ k, K k → w3.heap[k]? = w.heap[k]? from fun k q => (hk k q).trans (HK2.out k q))
        clear hp hk H2 HK2
        go_wp2_with fail
        go_ret3
        exact ⟨rfl, H3.out, HK3.out⟩
      · have hne : (f3 != 0) = true := by simpa using he3
        have HE := Lib.hid he3
        clear he3
        have hw := HF.out
        rw [mix_no3 Q1.out Q2'.out Q3.out HE.out] at hw
        injection hw with e1 hw
        injection hw with e2 hw
        injection hw with e3 e4
        subst e1 e2 e3 e4
        clear HF
        go_enter Try.func36, Try.ntmps36
        go_wp2_with fail
        refine (H.out.hashP g2 HX.out HI.out Q1.out).mono ?_
        rintro e w1 ⟨rfl, hp, hk⟩
        have H1 := Lib.hid hp
        have HK1 := Lib.hid (hk)
        clear hp hk H
        go_wp2_with fail
        refine (H1.out.deriveP g2 HN1.out u1 Q2'.out).mono ?_
        rintro e w2 ⟨rfl, hp, hk⟩
        have H2 := Lib.hid hp
        have HK2 := Lib.hid (show ∀ k, K k → w2.heap[k]? = w.heap[k]? from fun k q => (hk k q).trans (HK1.out k q))
        clear hp hk H1 HK1
        go_wp2_with fail
        refine (H2.out.deriveP g2 HN1.out u2 Q3.out).mono ?_
        rintro e w3 ⟨rfl, hp, hk⟩
        have H3 := Lib.hid hp
        have HK3 := Lib.hid (show ∀ k, K k → w3.heap[k]? = w.heap[k]? from fun k q => (hk k q).trans (HK2.out k q))
        clear hp hk H2 HK2
        go_wp2_with fail
        go_ret3
        exact ⟨rfl, H3.out, HK3.out⟩
    · have hne : (f2 != 0) = true := by simpa using he2
      have HE := Lib.hid he2
      clear he2
      have hw := HF.out
      rw [mix_no2 Q1.out Q2'.out HE.out] at hw
      injection hw with e1 hw
      injection hw with e2 hw
      injection hw with e3 e4
      subst e1 e2 e3 e4
      clear HF
      go_enter Try.func36, Try.ntmps36
      go_wp2_with fail
      refine (H.out.hashP g2 HX.out HI.out Q1.out).mono ?_
      rintro e w1 ⟨rfl, hp, hk⟩
      have H1 := Lib.hid hp
      have HK1 := Lib.hid (hk)
      clear hp hk H
      go_wp2_with fail
      refine (H1.out.deriveP g2 HN1.out u1 Q2'.out).mono ?_
      rintro e w2 ⟨rfl, hp, hk⟩
      have H2 := Lib.hid hp
      have HK2 := Lib.hid (show ∀ k, K k → w2.heap[k]? = w.heap[k]? from fun k q => (hk k q).trans (HK1.out k q))
      clear hp hk H1 HK1
      go_wp2_with fail
      go_ret3
      exact ⟨rfl, H2.out, HK2.out⟩
  · have hne : (f1 != 0) = true := by simpa using he1
    have HE := Lib.hid he1
    clear he1
    have hw := HF.out
    rw [mix_no1 Q1.out HE.out] at hw
    injection hw with e1 hw
    injection hw with e2 hw
    injection hw with e3 e4
    subst e1 e2 e3 e4
    clear HF
    go_enter Try.func36, Try.ntmps36
    go_wp2_with fail
    refine (H.out.hashP g2 HX.out HI.out Q1.out).mono ?_
    rintro e w1 ⟨rfl, hp, hk⟩
    have H1 := Lib.hid hp
    have HK1 := Lib.hid (hk)
    clear hp hk H
    go_wp2_with fail
    go_ret3
    exact ⟨rfl, H1.out, HK1.out⟩

set_option maxHeartbeats 400000 in
theorem Pair.hashR {L' : List Tm} {a e x y : Int} (g2 : Good base Q2) (h : Pair base (RSq base g most) Q2 L L2 K w0 w) (hx : I64 x) (hy : I64 y) (hf : putF L most (hashT x y) = (a, e, L')) :
    Calls Try.prog 35 #[.pointer (some ⟨g, 0, none⟩), .int .i64 x, .int .i64 y] w (TwoK (.int .i64 a) (.int .i64 e) (Pair base (RSq base g most) Q2 L' L2 K w0) K w) := by
  have H := Lib.hid h
  have HX := Lib.hid hx
  have HY := Lib.hid hy
  have HF := Lib.hid hf
  clear h hx hy hf
  go_enter Try.func35, Try.ntmps35
  go_wp2_with fail
  refine (H.out.putR g2 (hashT x y) (hash_wf HX.out HY.out) HF.out).mono ?_
  rintro e w1 ⟨rfl, h1, hk⟩
  have H1 := Lib.hid h1
  have HK := Lib.hid hk
  clear h1 hk H HF
  go_wp2_with fail
  go_ret2
  exact ⟨rfl, H1.out, HK.out⟩

set_option maxHeartbeats 400000 in
theorem Pair.deriveR {L' : List Tm} {a e x n : Int} (g2 : Good base Q2) (h : Pair base (RSq base g most) Q2 L L2 K w0 w) (hx : I64 x) (hy : U64 n) (hf : putF L most (keyT x n) = (a, e, L')) :
    Calls Try.prog 52 #[.pointer (some ⟨g, 0, none⟩), .int .i64 x, .int .u64 n] w (TwoK (.int .i64 a) (.int .i64 e) (Pair base (RSq base g most) Q2 L' L2 K w0) K w) := by
  have H := Lib.hid h
  have HX := Lib.hid hx
  have HY := Lib.hid hy
  have HF := Lib.hid hf
  clear h hx hy hf
  go_enter Try.func52, Try.ntmps52
  go_wp2_with fail
  refine (H.out.putR g2 (keyT x n) (key_wf HX.out HY.out) HF.out).mono ?_
  rintro e w1 ⟨rfl, h1, hk⟩
  have H1 := Lib.hid h1
  have HK := Lib.hid hk
  clear h1 hk H HF
  go_wp2_with fail
  go_ret2
  exact ⟨rfl, H1.out, HK.out⟩

set_option maxHeartbeats 2000000 in
theorem Pair.mixR {L' : List Tm} {a b e x i : Int} (g2 : Good base Q2) (h : Pair base (RSq base g most) Q2 L L2 K w0 w) (hx : I64 x) (hi : I64 i) (hf : mixF L most x i = (a, b, e, L')) :
    Calls Try.prog 37 #[.pointer (some ⟨g, 0, none⟩), .int .i64 x, .int .i64 i] w (Three (.int .i64 a) (.int .i64 b) (.int .i64 e) (Pair base (RSq base g most) Q2 L' L2 K w0) K w) := by
  obtain ⟨n1, f1, M1, q1⟩ : ∃ n f M, putF L most (hashT x i) = (n, f, M) := ⟨_, _, _, rfl⟩
  obtain ⟨n2, f2, M2, q2⟩ : ∃ n f M, putF M1 most (keyT n1 1) = (n, f, M) := ⟨_, _, _, rfl⟩
  obtain ⟨n3, f3, M3, q3⟩ : ∃ n f M, putF M2 most (keyT n1 2) = (n, f, M) := ⟨_, _, _, rfl⟩
  have HN1 := Lib.hid (name_i64 h.factsR.2.1 h.factsR.2.2 q1)
  have H := Lib.hid h
  have HX := Lib.hid hx
  have HI := Lib.hid hi
  have HF := Lib.hid hf
  have Q1 := Lib.hid q1
  have Q2' := Lib.hid q2
  have Q3 := Lib.hid q3
  clear h hx hi hf q1 q2 q3
  by_cases he1 : f1 = 0
  · subst he1
    by_cases he2 : f2 = 0
    · subst he2
      by_cases he3 : f3 = 0
      · subst he3
        have hw := HF.out
        rw [mix_yes Q1.out Q2'.out Q3.out] at hw
        injection hw with e1 hw
        injection hw with e2 hw
        injection hw with e3 e4
        subst e1 e2 e3 e4
        clear HF
        go_enter Try.func37, Try.ntmps37
        go_wp2_with fail
        refine (H.out.hashR g2 HX.out HI.out Q1.out).mono ?_
        rintro e w1 ⟨rfl, hp, hk⟩
        have H1 := Lib.hid hp
        have HK1 := Lib.hid (hk)
        clear hp hk H
        go_wp2_with fail
        refine (H1.out.deriveR g2 HN1.out u1 Q2'.out).mono ?_
        rintro e w2 ⟨rfl, hp, hk⟩
        have H2 := Lib.hid hp
        have HK2 := Lib.hid (show ∀ k, K k → w2.heap[k]? = w.heap[k]? from fun k q => (hk k q).trans (HK1.out k q))
        clear hp hk H1 HK1
        go_wp2_with fail
        refine (H2.out.deriveR g2 HN1.out u2 Q3.out).mono ?_
        rintro e w3 ⟨rfl, hp, hk⟩
        have H3 := Lib.hid hp
        have HK3 := Lib.hid (show ∀ k, K k → w3.heap[k]? = w.heap[k]? from fun k q => (hk k q).trans (HK2.out k q))
        clear hp hk H2 HK2
        go_wp2_with fail
        go_ret3
        exact ⟨rfl, H3.out, HK3.out⟩
      · have hne : (f3 != 0) = true := by simpa using he3
        have HE := Lib.hid he3
        clear he3
        have hw := HF.out
        rw [mix_no3 Q1.out Q2'.out Q3.out HE.out] at hw
        injection hw with e1 hw
        injection hw with e2 hw
        injection hw with e3 e4
        subst e1 e2 e3 e4
        clear HF
        go_enter Try.func37, Try.ntmps37
        go_wp2_with fail
        refine (H.out.hashR g2 HX.out HI.out Q1.out).mono ?_
        rintro e w1 ⟨rfl, hp, hk⟩
        have H1 := Lib.hid hp
        have HK1 := Lib.hid (hk)
        clear hp hk H
        go_wp2_with fail
        refine (H1.out.deriveR g2 HN1.out u1 Q2'.out).mono ?_
        rintro e w2 ⟨rfl, hp, hk⟩
        have H2 := Lib.hid hp
        have HK2 := Lib.hid (show ∀ k, K k → w2.heap[k]? = w.heap[k]? from fun k q => (hk k q).trans (HK1.out k q))
        clear hp hk H1 HK1
        go_wp2_with fail
        refine (H2.out.deriveR g2 HN1.out u2 Q3.out).mono ?_
        rintro e w3 ⟨rfl, hp, hk⟩
        have H3 := Lib.hid hp
        have HK3 := Lib.hid (show ∀ k, K k → w3.heap[k]? = w.heap[k]? from fun k q => (hk k q).trans (HK2.out k q))
        clear hp hk H2 HK2
        go_wp2_with fail
        go_ret3
        exact ⟨rfl, H3.out, HK3.out⟩
    · have hne : (f2 != 0) = true := by simpa using he2
      have HE := Lib.hid he2
      clear he2
      have hw := HF.out
      rw [mix_no2 Q1.out Q2'.out HE.out] at hw
      injection hw with e1 hw
      injection hw with e2 hw
      injection hw with e3 e4
      subst e1 e2 e3 e4
      clear HF
      go_enter Try.func37, Try.ntmps37
      go_wp2_with fail
      refine (H.out.hashR g2 HX.out HI.out Q1.out).mono ?_
      rintro e w1 ⟨rfl, hp, hk⟩
      have H1 := Lib.hid hp
      have HK1 := Lib.hid (hk)
      clear hp hk H
      go_wp2_with fail
      refine (H1.out.deriveR g2 HN1.out u1 Q2'.out).mono ?_
      rintro e w2 ⟨rfl, hp, hk⟩
      have H2 := Lib.hid hp
      have HK2 := Lib.hid (show ∀ k, K k → w2.heap[k]? = w.heap[k]? from fun k q => (hk k q).trans (HK1.out k q))
      clear hp hk H1 HK1
      go_wp2_with fail
      go_ret3
      exact ⟨rfl, H2.out, HK2.out⟩
  · have hne : (f1 != 0) = true := by simpa using he1
    have HE := Lib.hid he1
    clear he1
    have hw := HF.out
    rw [mix_no1 Q1.out HE.out] at hw
    injection hw with e1 hw
    injection hw with e2 hw
    injection hw with e3 e4
    subst e1 e2 e3 e4
    clear HF
    go_enter Try.func37, Try.ntmps37
    go_wp2_with fail
    refine (H.out.hashR g2 HX.out HI.out Q1.out).mono ?_
    rintro e w1 ⟨rfl, hp, hk⟩
    have H1 := Lib.hid hp
    have HK1 := Lib.hid (hk)
    clear hp hk H
    go_wp2_with fail
    go_ret3
    exact ⟨rfl, H1.out, HK1.out⟩

def Tri (B : Nat) : Nat → Prop := fun k => k = B ∨ k = B + 1 ∨ k = B + 1 + 1
def Kt (K : Nat → Prop) (B : Nat) : Nat → Prop := fun k => K k ∨ Tri B k





end
end Go.Proofs.Ytlejejeflgnglaa
