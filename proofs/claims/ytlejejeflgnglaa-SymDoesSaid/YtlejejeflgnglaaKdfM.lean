/- What is hashed, derived, mixed and chained is named, where there is room. -/
import Derived.Test.YtlejejeflgnglaaKdfC
namespace Go.Proofs.Ytlejejeflgnglaa
open Go.RowKit
set_option linter.unusedVariables false
set_option linter.unusedSimpArgs false

theorem may_hash {n : Nat} {a b : Int} (h1 : 1 ≤ a ∧ a ≤ (n : Int)) (h2 : 1 ≤ b ∧ b ≤ (n : Int)) : (hashT a b).may n = true := by
  rw [may_iff]
  simp [May, below3, BadP, many, prt, hashT, sz0]
  omega
theorem may_key {n : Nat} {k w : Int} (h1 : 1 ≤ k ∧ k ≤ (n : Int)) : (keyT k w).may n = true := by
  rw [may_iff]
  simp [May, below3, BadP, many, prt, keyT, sz0]
  omega
theorem hash_eq {a b c d : Int} : hashT a b = hashT c d ↔ a = c ∧ b = d := by
  unfold hashT
  simp
theorem key_eq {a b c d : Int} : keyT a b = keyT c d ↔ a = c ∧ b = d := by
  unfold keyT
  simp only [Tm.mk.injEq, true_and, and_true]
  constructor
  · rintro ⟨h1, h2⟩; exact ⟨h2, h1⟩
  · rintro ⟨h1, h2⟩; exact ⟨h2, h1⟩
theorem hash_ne_key (a b c d : Int) : hashT a b ≠ keyT c d := by
  intro h; unfold hashT keyT at h; injection h with h1; omega
theorem Ext.in {L L' : List Tm} (h : Ext L L') {x : Int} (hx : 1 ≤ x ∧ x ≤ (L.length : Int)) : 1 ≤ x ∧ x ≤ (L'.length : Int) := ⟨hx.1, h.len hx.2⟩
theorem Named.in {L : List Tm} {a : Int} {t : Tm} (h : Named L a t) : 1 ≤ a ∧ a ≤ (L.length : Int) := ⟨h.at.1, h.at.2.1⟩
theorem put_fit {L L' : List Tm} {most a e : Int} {t : Tm} (hf : Fit L) (hl : (L.length : Int) ≤ most) (h : putF L most t = (a, e, L')) : Fit L' ∧ (L'.length : Int) ≤ most := by
  have := fit_putF (t := t) hf hl
  rw [h] at this
  exact this
/-- A key comes behind that of which it is derived, a hash behind both. -/
theorem Named.key_lt {L : List Tm} (hf : Fit L) {a k w : Int} (h : Named L a (keyT k w)) : k < a :=
  (part_in hf h.get 0 (by show 0 < many 9; decide)).2
theorem Named.hash_lt {L : List Tm} (hf : Fit L) {a x y : Int} (h : Named L a (hashT x y)) : x < a ∧ y < a :=
  ⟨(part_in hf h.get 0 (by show 0 < many 8; decide)).2, (part_in hf h.get 1 (by show 1 < many 8; decide)).2⟩
theorem hash_step {L : List Tm} {most x y : Int} (hf : Fit L) (hx : 1 ≤ x ∧ x ≤ (L.length : Int)) (hy : 1 ≤ y ∧ y ≤ (L.length : Int)) (hr : (L.length : Int) < most) :
    ∃ a L', putF L most (hashT x y) = (a, 0, L') ∧ Named L' a (hashT x y) ∧ Ext L L' ∧ L'.length ≤ L.length + 1 ∧ Fit L' := by
  obtain ⟨a, L', h1, h2, h3, h4⟩ := put_named L most (hashT x y) (may_hash hx hy) hr
  exact ⟨a, L', h1, h2, h3, h4, (put_fit hf (by omega) h1).1⟩
theorem key_step {L : List Tm} {most k : Int} (w : Int) (hf : Fit L) (hk : 1 ≤ k ∧ k ≤ (L.length : Int)) (hr : (L.length : Int) < most) :
    ∃ a L', putF L most (keyT k w) = (a, 0, L') ∧ Named L' a (keyT k w) ∧ Ext L L' ∧ L'.length ≤ L.length + 1 ∧ Fit L' := by
  obtain ⟨a, L', h1, h2, h3, h4⟩ := put_named L most (keyT k w) (may_key hk) hr
  exact ⟨a, L', h1, h2, h3, h4, (put_fit hf (by omega) h1).1⟩
/-- Both keys of a mix. -/
def Mixed (L : List Tm) (k i a b : Int) : Prop := ∃ h, Named L h (hashT k i) ∧ Named L a (keyT h 1) ∧ Named L b (keyT h 2)
theorem Mixed.ext {L L' : List Tm} {k i a b : Int} (h : Mixed L k i a b) (x : Ext L L') : Mixed L' k i a b := by
  obtain ⟨n, h1, h2, h3⟩ := h
  exact ⟨n, h1.ext x, h2.ext x, h3.ext x⟩
theorem mix_step {L : List Tm} {most k i : Int} (hf : Fit L) (hk : 1 ≤ k ∧ k ≤ (L.length : Int)) (hi : 1 ≤ i ∧ i ≤ (L.length : Int)) (hr : (L.length : Int) + 2 < most) :
    ∃ a b L', mixF L most k i = (a, b, 0, L') ∧ Mixed L' k i a b ∧ Ext L L' ∧ L'.length ≤ L.length + 3 ∧ Fit L' := by
  obtain ⟨h, L1, e1, n1, x1, l1, f1⟩ := hash_step (most := most) hf hk hi (by omega)
  obtain ⟨a, L2, e2, n2, x2, l2, f2⟩ := key_step (most := most) 1 f1 n1.in (by omega)
  obtain ⟨b, L3, e3, n3, x3, l3, f3⟩ := key_step (most := most) 2 f2 (x2.in n1.in) (by omega)
  exact ⟨a, b, L3, mix_yes e1 e2 e3, ⟨h, n1.ext (x2.trans x3), n2.ext x3, n3⟩, x1.trans (x2.trans x3), by omega, f3⟩
/-- A chain of so many keys, all of them there. -/
def Link (L : List Tm) (n : Int) : Nat → Int → Int → Prop
  | 0, k, a => a = k
  | m + 1, k, a => ∃ y, Named L y (keyT k n) ∧ Link L n m y a
theorem Link.ext {L L' : List Tm} {n : Int} (x : Ext L L') : ∀ {m : Nat} {k a : Int}, Link L n m k a → Link L' n m k a
  | 0, _, _, h => h
  | m + 1, _, _, ⟨y, h1, h2⟩ => ⟨y, h1.ext x, Link.ext x h2⟩
theorem Link.fun {L : List Tm} {n : Int} : ∀ {m : Nat} {k a b : Int}, Link L n m k a → Link L n m k b → a = b
  | 0, _, _, _, h, g => by rw [h, g]
  | m + 1, _, _, _, ⟨y, h1, h2⟩, ⟨z, g1, g2⟩ => by
    obtain rfl : y = z := (h1.inj g1).2 rfl
    exact Link.fun h2 g2
theorem Link.add {L : List Tm} {n : Int} : ∀ {m j : Nat} {k a b : Int}, Link L n m k a → Link L n j a b → Link L n (m + j) k b
  | 0, j, _, _, _, h, g => by
    have e : _ = _ := h
    rw [Nat.zero_add, ← e]
    exact g
  | m + 1, j, _, _, _, ⟨y, h1, h2⟩, g => by
    rw [show m + 1 + j = (m + j) + 1 by omega]
    exact ⟨y, h1, Link.add h2 g⟩
theorem Link.split {L : List Tm} {n : Int} : ∀ {m j : Nat} {k b : Int}, Link L n (m + j) k b → ∃ a, Link L n m k a ∧ Link L n j a b
  | 0, j, k, _, h => ⟨k, rfl, by rwa [Nat.zero_add] at h⟩
  | m + 1, j, k, b, h => by
    rw [show m + 1 + j = (m + j) + 1 by omega] at h
    obtain ⟨y, h1, h2⟩ := h
    obtain ⟨a, g1, g2⟩ := Link.split h2
    exact ⟨a, ⟨y, h1, g1⟩, g2⟩
theorem Link.le {L : List Tm} {n : Int} (hf : Fit L) : ∀ {m : Nat} {k a : Int}, Link L n m k a → k + m ≤ a
  | 0, _, _, h => by
    have e : _ = _ := h
    omega
  | m + 1, k, a, ⟨y, h1, h2⟩ => by
    have q1 := h1.key_lt hf
    have q2 := Link.le hf h2
    omega
theorem Link.inj {L : List Tm} {n : Int} (hf : Fit L) {m j : Nat} {k a b : Int} (h : Link L n m k a) (g : Link L n j k b) : a = b ↔ m = j := by
  constructor
  · intro e
    subst e
    rcases Nat.lt_trichotomy m j with q | q | q
    · obtain ⟨c, h1, h2⟩ := Link.split (m := m) (j := j - m) (by rw [show m + (j - m) = j by omega]; exact g)
      have e := Link.fun h h1
      have := Link.le hf h2
      omega
    · exact q
    · obtain ⟨c, h1, h2⟩ := Link.split (m := j) (j := m - j) (by rw [show j + (m - j) = m by omega]; exact h)
      have e := Link.fun g h1
      have := Link.le hf h2
      omega
  · intro e
    subst e
    exact Link.fun h g
theorem chain_step {n most : Int} : ∀ (m : Nat) {L : List Tm} {k : Int}, Fit L → (1 ≤ k ∧ k ≤ (L.length : Int)) → (L.length : Int) + m ≤ most →
    ∃ a L', chainN n most m L k = (a, 0, L') ∧ Link L' n m k a ∧ (1 ≤ a ∧ a ≤ (L'.length : Int)) ∧ Ext L L' ∧ L'.length ≤ L.length + m ∧ Fit L'
  | 0, L, k, hf, hk, hr => ⟨k, L, rfl, rfl, hk, Ext.refl L, by omega, hf⟩
  | m + 1, L, k, hf, hk, hr => by
    obtain ⟨y, L1, e1, n1, x1, l1, f1⟩ := key_step (most := most) n hf hk (by omega)
    obtain ⟨a, L2, e2, n2, i2, x2, l2, f2⟩ := chain_step (n := n) (most := most) m f1 n1.in (by omega)
    exact ⟨a, L2, by rw [chain_yes e1]; exact e2, ⟨y, n1.ext x2, n2⟩, i2, x1.trans x2, by omega, f2⟩
theorem chainF_of {L : List Tm} {n most k : Int} {m : Nat} (hk : 1 ≤ k ∧ k ≤ (L.length : Int)) (hm : m ≤ 1000) : chainF L most k n m = chainN n most m L k := by
  obtain ⟨t, ht⟩ := getT_of hk
  rw [chainF, if_pos ⟨by rw [ht], by omega, by omega⟩, Int.toNat_natCast]
/-- A second store of the program, beside the first. -/
theorem Pair.newB {base g1 : Nat} {m1 most : Int} {L1 : List Tm} {K : Nat → Prop} {w0 w : World} (h : Pair base (PSq base g1 m1) NoS L1 [] K w0 w) (h1 : 0 ≤ most) (h2 : most ≤ 1048576) :
    Calls Try.prog 27 #[.int .i64 most] w fun e w' => ∃ g, e = .returned (.tuple #[.pointer (some ⟨g, 0, none⟩), .int .i64 0]) ∧ Pair base (PSq base g1 m1) (PSq base g most) L1 [] K w0 w' := by
  have hbl := h.base_le
  refine (newP_good base most w h1 h2 hbl).mono ?_
  rintro e w' ⟨g, rfl, hr, hb⟩
  obtain ⟨F1, F2, p1, p2, p3, p4, p5, p6⟩ := h
  refine ⟨g, rfl, F1, _, (PSq.good base g1 m1).frame p1 (S := fun _ => False) (.of_below hb) (fun _ _ q => q), hr, ?_, ?_, p5, p6.trans (hb.mono hbl)⟩
  · intro k hk e; have := ((PSq.good base g1 m1).bounds p1 k hk).2; omega
  · intro k hk
    have h3 := p4 k hk
    have h4 := hb.size
    exact ⟨h3.1, fun e => by have := h3.2.2; omega, by have := h3.2.2; omega⟩
end Go.Proofs.Ytlejejeflgnglaa
