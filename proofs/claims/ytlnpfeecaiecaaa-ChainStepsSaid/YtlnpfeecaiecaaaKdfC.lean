/- Hashes, keys, what is mixed, and chains: contracts of the program's and the document's calls of layer 6, as functions of a store's terms. What is hashed, derived, mixed and chained is named, where there is room. -/
import Derived.Test.YtlnpfeecaiecaaaWords
import Derived.OneCell
namespace Go.Proofs.Ytlnpfeecaiecaaa
open Go.RowKit
set_option linter.unusedVariables false
set_option linter.unusedSimpArgs false

def hashT (a b : Int) : Tm := ⟨8, ⟨#[]⟩, 0, a, b, 0⟩
def keyT (k n : Int) : Tm := ⟨9, ⟨#[]⟩, n, k, 0, 0⟩
theorem hash_wf {a b : Int} (ha : I64 a) (hb : I64 b) : Wf (hashT a b) := ⟨wf_emp, k8, u0, ha, hb, k0⟩
theorem key_wf {k n : Int} (hk : I64 k) (hn : U64 n) : Wf (keyT k n) := ⟨wf_emp, k9, hn, hk, k0, k0⟩
/-- What is mixed: both keys, or what is wrong, and the terms that are there then. -/
def mixF (L : List Tm) (most k i : Int) : Int × Int × Int × List Tm :=
  if (putF L most (hashT k i)).2.1 ≠ 0 then (0, 0, (putF L most (hashT k i)).2.1, (putF L most (hashT k i)).2.2) else
    let x := putF L most (hashT k i)
    let y := putF x.2.2 most (keyT x.1 1)
    if y.2.1 ≠ 0 then (0, 0, y.2.1, y.2.2) else
      let z := putF y.2.2 most (keyT x.1 2)
      if z.2.1 ≠ 0 then (0, 0, z.2.1, z.2.2) else (y.1, z.1, 0, z.2.2)
theorem mix_no1 {L L1 : List Tm} {most k i a e : Int} (h1 : putF L most (hashT k i) = (a, e, L1)) (he : e ≠ 0) : mixF L most k i = (0, 0, e, L1) := by
  simp [mixF, h1, he]
theorem mix_no2 {L L1 L2 : List Tm} {most k i a b e : Int} (h1 : putF L most (hashT k i) = (a, 0, L1)) (h2 : putF L1 most (keyT a 1) = (b, e, L2)) (he : e ≠ 0) : mixF L most k i = (0, 0, e, L2) := by
  simp [mixF, h1, h2, he]
theorem mix_no3 {L L1 L2 L3 : List Tm} {most k i a b c e : Int} (h1 : putF L most (hashT k i) = (a, 0, L1)) (h2 : putF L1 most (keyT a 1) = (b, 0, L2)) (h3 : putF L2 most (keyT a 2) = (c, e, L3)) (he : e ≠ 0) : mixF L most k i = (0, 0, e, L3) := by
  simp [mixF, h1, h2, h3, he]
theorem mix_yes {L L1 L2 L3 : List Tm} {most k i a b c : Int} (h1 : putF L most (hashT k i) = (a, 0, L1)) (h2 : putF L1 most (keyT a 1) = (b, 0, L2)) (h3 : putF L2 most (keyT a 2) = (c, 0, L3)) : mixF L most k i = (b, c, 0, L3) := by
  simp [mixF, h1, h2, h3]
/-- A chain of so many keys. -/
def chainN (n most : Int) : Nat → List Tm → Int → Int × Int × List Tm
  | 0, L, k => (k, 0, L)
  | t + 1, L, k => if (putF L most (keyT k n)).2.1 ≠ 0 then (0, (putF L most (keyT k n)).2.1, (putF L most (keyT k n)).2.2) else chainN n most t (putF L most (keyT k n)).2.2 (putF L most (keyT k n)).1
theorem chain_zero (n most : Int) (L : List Tm) (k : Int) : chainN n most 0 L k = (k, 0, L) := rfl
theorem chain_no {n most k a e : Int} {t : Nat} {L L1 : List Tm} (h : putF L most (keyT k n) = (a, e, L1)) (he : e ≠ 0) : chainN n most (t + 1) L k = (0, e, L1) := by
  simp [chainN, h, he]
theorem chain_yes {n most k a : Int} {t : Nat} {L L1 : List Tm} (h : putF L most (keyT k n) = (a, 0, L1)) : chainN n most (t + 1) L k = chainN n most t L1 a := by
  simp [chainN, h]
def chainF (L : List Tm) (most k n t : Int) : Int × Int × List Tm := if (getT L k).2 = true ∧ 0 ≤ t ∧ t ≤ 1000 then chainN n most t.toNat L k else (0, 1, L)
theorem name_i64 {L L' : List Tm} {most a e : Int} {t : Tm} (hl : (L.length : Int) ≤ most) (hm : most ≤ 1048576) (h : putF L most t = (a, e, L')) : I64 a := by
  rcases putF_cases L most t with ⟨hp, _⟩ | ⟨j, hj, hp, _⟩ | ⟨hr, hp, _⟩ | ⟨hr, hp, _⟩
  all_goals
    have hh := hp.symm.trans h
    injection hh with a1 a2
    rw [← a1]
  · exact k0
  · exact i64_small (by omega) (by omega)
  · exact k0
  · exact i64_small (by omega) (by omega)
/-- What is put is there. -/
theorem put_there {L L' : List Tm} {most a : Int} {t : Tm} (h : putF L most t = (a, 0, L')) : 1 ≤ a ∧ a ≤ (L'.length : Int) := by
  rcases putF_cases L most t with ⟨hp, _⟩ | ⟨j, hj, hp, _⟩ | ⟨hr, hp, _⟩ | ⟨hr, hp, _⟩
  all_goals
    have hh := hp.symm.trans h
    injection hh with a1 a2
    injection a2 with a2 a3
    subst a3
  · omega
  · omega
  · omega
  · simp; omega
section
variable {base g : Nat} {most : Int} {Q1 Q2 : (Nat → Prop) → List Tm → World → Prop} {L L1 L2 : List Tm} {K : Nat → Prop} {w0 w : World}
theorem Pair.klt (h : Pair base Q1 Q2 L1 L2 K w0 w) : ∀ k, K k → k < w.heap.size := by
  obtain ⟨F1, F2, _, _, _, h4, _⟩ := h
  exact fun k hk => (h4 k hk).2.2
theorem Pair.factsR (h : Pair base (RSq base g most) Q2 L L2 K w0 w) : Fit L ∧ (L.length : Int) ≤ most ∧ most ≤ 1048576 := by
  obtain ⟨F1, F2, ⟨sv, _, _, _, _, h5, h6, h7⟩, _⟩ := h
  exact ⟨h6, h7, h5⟩
/-- A cell of a kept block is turned. -/
theorem Pair.setK (g1 : Good base Q1) (g2 : Good base Q2) (h : Pair base Q1 Q2 L1 L2 K w0 w) {b : Nat} (hk : K b) (hb : base ≤ b) (v : Value) : Pair base Q1 Q2 L1 L2 K w0 (w.setCell ⟨b, 0, none⟩ v) := by
  obtain ⟨F1, F2, h1, h2, h3, h4, h5, h6⟩ := h
  have C := Chg.setCell w b 0 v
  exact ⟨F1, F2, g1.frame h1 C (fun k a e => (h4 b hk).1 (e ▸ a)), g2.frame h2 C (fun k a e => (h4 b hk).2.1 (e ▸ a)), h3, fun k q => ⟨(h4 k q).1, (h4 k q).2.1, by simp; exact (h4 k q).2.2⟩, h5, h6.setCell hb v⟩


set_option maxHeartbeats 400000 in
theorem Pair.deriveP {L' : List Tm} {a e x n : Int} (g2 : Good base Q2) (h : Pair base (PSq base g most) Q2 L L2 K w0 w) (hx : I64 x) (hy : U64 n) (hf : putF L most (keyT x n) = (a, e, L')) :
    Calls Try.prog 29 #[.pointer (some ⟨g, 0, none⟩), .int .i64 x, .int .u64 n] w (TwoK (.int .i64 a) (.int .i64 e) (Pair base (PSq base g most) Q2 L' L2 K w0) K w) := by
  have H := Lib.hid h
  have HX := Lib.hid hx
  have HY := Lib.hid hy
  have HF := Lib.hid hf
  clear h hx hy hf
  go_enter Try.func29, Try.ntmps29
  go_wp2_with fail
  refine (H.out.putP g2 (keyT x n) (key_wf HX.out HY.out) HF.out).mono ?_
  rintro e w1 ⟨rfl, h1, hk⟩
  have H1 := Lib.hid h1
  have HK := Lib.hid hk
  clear h1 hk H HF
  go_wp2_with fail
  go_ret2
  exact ⟨rfl, H1.out, HK.out⟩



set_option maxHeartbeats 400000 in
theorem Pair.deriveR {L' : List Tm} {a e x n : Int} (g2 : Good base Q2) (h : Pair base (RSq base g most) Q2 L L2 K w0 w) (hx : I64 x) (hy : U64 n) (hf : putF L most (keyT x n) = (a, e, L')) :
    Calls Try.prog 30 #[.pointer (some ⟨g, 0, none⟩), .int .i64 x, .int .u64 n] w (TwoK (.int .i64 a) (.int .i64 e) (Pair base (RSq base g most) Q2 L' L2 K w0) K w) := by
  have H := Lib.hid h
  have HX := Lib.hid hx
  have HY := Lib.hid hy
  have HF := Lib.hid hf
  clear h hx hy hf
  go_enter Try.func30, Try.ntmps30
  go_wp2_with fail
  refine (H.out.putR g2 (keyT x n) (key_wf HX.out HY.out) HF.out).mono ?_
  rintro e w1 ⟨rfl, h1, hk⟩
  have H1 := Lib.hid h1
  have HK := Lib.hid hk
  clear h1 hk H HF
  go_wp2_with fail
  go_ret2
  exact ⟨rfl, H1.out, HK.out⟩


def Tri (B : Nat) : Nat → Prop := fun k => k = B ∨ k = B + 1 ∨ k = B + 1 + 1
def Kt (K : Nat → Prop) (B : Nat) : Nat → Prop := fun k => K k ∨ Tri B k





end
end Go.Proofs.Ytlnpfeecaiecaaa

namespace Go.Proofs.Ytlnpfeecaiecaaa
open Go.RowKit
set_option linter.unusedVariables false
set_option linter.unusedSimpArgs false

theorem may_hash {n : Nat} {a b : Int} (h1 : 1 ≤ a ∧ a ≤ (n : Int)) (h2 : 1 ≤ b ∧ b ≤ (n : Int)) : (hashT a b).may n = true := by
  rw [may_iff]
  simp [May, below3, BadP, many, prt, hashT, sz0]
  omega
theorem may_key {n : Nat} {k w : Int} (h1 : 1 ≤ k ∧ k ≤ (n : Int)) : (keyT k w).may n = true := by
  rw [may_iff]
  simp [May, below3, BadP, many, prt, keyT, sz0]
  omega
theorem hash_eq {a b c d : Int} : hashT a b = hashT c d ↔ a = c ∧ b = d := by
  unfold hashT
  simp
theorem key_eq {a b c d : Int} : keyT a b = keyT c d ↔ a = c ∧ b = d := by
  unfold keyT
  simp only [Tm.mk.injEq, true_and, and_true]
  constructor
  · rintro ⟨h1, h2⟩; exact ⟨h2, h1⟩
  · rintro ⟨h1, h2⟩; exact ⟨h2, h1⟩
theorem hash_ne_key (a b c d : Int) : hashT a b ≠ keyT c d := by
  intro h; unfold hashT keyT at h; injection h with h1; omega
theorem Ext.in {L L' : List Tm} (h : Ext L L') {x : Int} (hx : 1 ≤ x ∧ x ≤ (L.length : Int)) : 1 ≤ x ∧ x ≤ (L'.length : Int) := ⟨hx.1, h.len hx.2⟩
theorem Named.in {L : List Tm} {a : Int} {t : Tm} (h : Named L a t) : 1 ≤ a ∧ a ≤ (L.length : Int) := ⟨h.at.1, h.at.2.1⟩
theorem put_fit {L L' : List Tm} {most a e : Int} {t : Tm} (hf : Fit L) (hl : (L.length : Int) ≤ most) (h : putF L most t = (a, e, L')) : Fit L' ∧ (L'.length : Int) ≤ most := by
  have := fit_putF (t := t) hf hl
  rw [h] at this
  exact this
/-- A key comes behind that of which it is derived, a hash behind both. -/
theorem Named.key_lt {L : List Tm} (hf : Fit L) {a k w : Int} (h : Named L a (keyT k w)) : k < a :=
  (part_in hf h.get 0 (by show 0 < many 9; decide)).2
theorem Named.hash_lt {L : List Tm} (hf : Fit L) {a x y : Int} (h : Named L a (hashT x y)) : x < a ∧ y < a :=
  ⟨(part_in hf h.get 0 (by show 0 < many 8; decide)).2, (part_in hf h.get 1 (by show 1 < many 8; decide)).2⟩
theorem hash_step {L : List Tm} {most x y : Int} (hf : Fit L) (hx : 1 ≤ x ∧ x ≤ (L.length : Int)) (hy : 1 ≤ y ∧ y ≤ (L.length : Int)) (hr : (L.length : Int) < most) :
    ∃ a L', putF L most (hashT x y) = (a, 0, L') ∧ Named L' a (hashT x y) ∧ Ext L L' ∧ L'.length ≤ L.length + 1 ∧ Fit L' := by
  obtain ⟨a, L', h1, h2, h3, h4⟩ := put_named L most (hashT x y) (may_hash hx hy) hr
  exact ⟨a, L', h1, h2, h3, h4, (put_fit hf (by omega) h1).1⟩
theorem key_step {L : List Tm} {most k : Int} (w : Int) (hf : Fit L) (hk : 1 ≤ k ∧ k ≤ (L.length : Int)) (hr : (L.length : Int) < most) :
    ∃ a L', putF L most (keyT k w) = (a, 0, L') ∧ Named L' a (keyT k w) ∧ Ext L L' ∧ L'.length ≤ L.length + 1 ∧ Fit L' := by
  obtain ⟨a, L', h1, h2, h3, h4⟩ := put_named L most (keyT k w) (may_key hk) hr
  exact ⟨a, L', h1, h2, h3, h4, (put_fit hf (by omega) h1).1⟩
/-- Both keys of a mix. -/
def Mixed (L : List Tm) (k i a b : Int) : Prop := ∃ h, Named L h (hashT k i) ∧ Named L a (keyT h 1) ∧ Named L b (keyT h 2)
theorem Mixed.ext {L L' : List Tm} {k i a b : Int} (h : Mixed L k i a b) (x : Ext L L') : Mixed L' k i a b := by
  obtain ⟨n, h1, h2, h3⟩ := h
  exact ⟨n, h1.ext x, h2.ext x, h3.ext x⟩
theorem mix_step {L : List Tm} {most k i : Int} (hf : Fit L) (hk : 1 ≤ k ∧ k ≤ (L.length : Int)) (hi : 1 ≤ i ∧ i ≤ (L.length : Int)) (hr : (L.length : Int) + 2 < most) :
    ∃ a b L', mixF L most k i = (a, b, 0, L') ∧ Mixed L' k i a b ∧ Ext L L' ∧ L'.length ≤ L.length + 3 ∧ Fit L' := by
  obtain ⟨h, L1, e1, n1, x1, l1, f1⟩ := hash_step (most := most) hf hk hi (by omega)
  obtain ⟨a, L2, e2, n2, x2, l2, f2⟩ := key_step (most := most) 1 f1 n1.in (by omega)
  obtain ⟨b, L3, e3, n3, x3, l3, f3⟩ := key_step (most := most) 2 f2 (x2.in n1.in) (by omega)
  exact ⟨a, b, L3, mix_yes e1 e2 e3, ⟨h, n1.ext (x2.trans x3), n2.ext x3, n3⟩, x1.trans (x2.trans x3), by omega, f3⟩
/-- A chain of so many keys, all of them there. -/
def Link (L : List Tm) (n : Int) : Nat → Int → Int → Prop
  | 0, k, a => a = k
  | m + 1, k, a => ∃ y, Named L y (keyT k n) ∧ Link L n m y a
theorem Link.ext {L L' : List Tm} {n : Int} (x : Ext L L') : ∀ {m : Nat} {k a : Int}, Link L n m k a → Link L' n m k a
  | 0, _, _, h => h
  | m + 1, _, _, ⟨y, h1, h2⟩ => ⟨y, h1.ext x, Link.ext x h2⟩
theorem Link.fun {L : List Tm} {n : Int} : ∀ {m : Nat} {k a b : Int}, Link L n m k a → Link L n m k b → a = b
  | 0, _, _, _, h, g => by rw [h, g]
  | m + 1, _, _, _, ⟨y, h1, h2⟩, ⟨z, g1, g2⟩ => by
    obtain rfl : y = z := (h1.inj g1).2 rfl
    exact Link.fun h2 g2
theorem Link.add {L : List Tm} {n : Int} : ∀ {m j : Nat} {k a b : Int}, Link L n m k a → Link L n j a b → Link L n (m + j) k b
  | 0, j, _, _, _, h, g => by
    have e : _ = _ := h
    rw [Nat.zero_add, ← e]
    exact g
  | m + 1, j, _, _, _, ⟨y, h1, h2⟩, g => by
    rw [show m + 1 + j = (m + j) + 1 by omega]
    exact ⟨y, h1, Link.add h2 g⟩
theorem Link.split {L : List Tm} {n : Int} : ∀ {m j : Nat} {k b : Int}, Link L n (m + j) k b → ∃ a, Link L n m k a ∧ Link L n j a b
  | 0, j, k, _, h => ⟨k, rfl, by rwa [Nat.zero_add] at h⟩
  | m + 1, j, k, b, h => by
    rw [show m + 1 + j = (m + j) + 1 by omega] at h
    obtain ⟨y, h1, h2⟩ := h
    obtain ⟨a, g1, g2⟩ := Link.split h2
    exact ⟨a, ⟨y, h1, g1⟩, g2⟩
theorem Link.le {L : List Tm} {n : Int} (hf : Fit L) : ∀ {m : Nat} {k a : Int}, Link L n m k a → k + m ≤ a
  | 0, _, _, h => by
    have e : _ = _ := h
    omega
  | m + 1, k, a, ⟨y, h1, h2⟩ => by
    have q1 := h1.key_lt hf
    have q2 := Link.le hf h2
    omega
theorem Link.inj {L : List Tm} {n : Int} (hf : Fit L) {m j : Nat} {k a b : Int} (h : Link L n m k a) (g : Link L n j k b) : a = b ↔ m = j := by
  constructor
  · intro e
    subst e
    rcases Nat.lt_trichotomy m j with q | q | q
    · obtain ⟨c, h1, h2⟩ := Link.split (m := m) (j := j - m) (by rw [show m + (j - m) = j by omega]; exact g)
      have e := Link.fun h h1
      have := Link.le hf h2
      omega
    · exact q
    · obtain ⟨c, h1, h2⟩ := Link.split (m := j) (j := m - j) (by rw [show j + (m - j) = m by omega]; exact h)
      have e := Link.fun g h1
      have := Link.le hf h2
      omega
  · intro e
    subst e
    exact Link.fun h g
theorem chain_step {n most : Int} : ∀ (m : Nat) {L : List Tm} {k : Int}, Fit L → (1 ≤ k ∧ k ≤ (L.length : Int)) → (L.length : Int) + m ≤ most →
    ∃ a L', chainN n most m L k = (a, 0, L') ∧ Link L' n m k a ∧ (1 ≤ a ∧ a ≤ (L'.length : Int)) ∧ Ext L L' ∧ L'.length ≤ L.length + m ∧ Fit L'
  | 0, L, k, hf, hk, hr => ⟨k, L, rfl, rfl, hk, Ext.refl L, by omega, hf⟩
  | m + 1, L, k, hf, hk, hr => by
    obtain ⟨y, L1, e1, n1, x1, l1, f1⟩ := key_step (most := most) n hf hk (by omega)
    obtain ⟨a, L2, e2, n2, i2, x2, l2, f2⟩ := chain_step (n := n) (most := most) m f1 n1.in (by omega)
    exact ⟨a, L2, by rw [chain_yes e1]; exact e2, ⟨y, n1.ext x2, n2⟩, i2, x1.trans x2, by omega, f2⟩
theorem chainF_of {L : List Tm} {n most k : Int} {m : Nat} (hk : 1 ≤ k ∧ k ≤ (L.length : Int)) (hm : m ≤ 1000) : chainF L most k n m = chainN n most m L k := by
  obtain ⟨t, ht⟩ := getT_of hk
  rw [chainF, if_pos ⟨by rw [ht], by omega, by omega⟩, Int.toNat_natCast]
/-- A second store of the program, beside the first. -/
theorem Pair.newB {base g1 : Nat} {m1 most : Int} {L1 : List Tm} {K : Nat → Prop} {w0 w : World} (h : Pair base (PSq base g1 m1) NoS L1 [] K w0 w) (h1 : 0 ≤ most) (h2 : most ≤ 1048576) :
    Calls Try.prog 21 #[.int .i64 most] w fun e w' => ∃ g, e = .returned (.tuple #[.pointer (some ⟨g, 0, none⟩), .int .i64 0]) ∧ Pair base (PSq base g1 m1) (PSq base g most) L1 [] K w0 w' := by
  have hbl := h.base_le
  refine (newP_good base most w h1 h2 hbl).mono ?_
  rintro e w' ⟨g, rfl, hr, hb⟩
  obtain ⟨F1, F2, p1, p2, p3, p4, p5, p6⟩ := h
  refine ⟨g, rfl, F1, _, (PSq.good base g1 m1).frame p1 (S := fun _ => False) (.of_below hb) (fun _ _ q => q), hr, ?_, ?_, p5, p6.trans (hb.mono hbl)⟩
  · intro k hk e; have := ((PSq.good base g1 m1).bounds p1 k hk).2; omega
  · intro k hk
    have h3 := p4 k hk
    have h4 := hb.size
    exact ⟨h3.1, fun e => by have := h3.2.2; omega, by have := h3.2.2; omega⟩
end Go.Proofs.Ytlnpfeecaiecaaa
