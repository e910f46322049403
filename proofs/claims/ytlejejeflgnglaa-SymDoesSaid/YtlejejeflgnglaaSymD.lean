/- A state of a handshake, and what begins, is said, mixed in, sealed, opened and split, as functions of a store's terms; where there is room, what each of them names. -/
import Derived.Test.YtlejejeflgnglaaAeadM
import Derived.Test.YtlejejeflgnglaaKdfM
namespace Go.Proofs.Ytlejejeflgnglaa
open Go.RowKit
set_option linter.unusedVariables false
set_option linter.unusedSimpArgs false

structure Sy where
  CK : Int
  K : Int
  H : Int
  N : Int
def Sy.v (y : Sy) : Value := .agg #[.int .i64 y.CK, .int .i64 y.K, .int .i64 y.H, .int .u64 y.N]
def zeroY : Sy := ⟨0, 0, 0, 0⟩
structure Sy.Wf (y : Sy) : Prop where
  ck : I64 y.CK
  k : I64 y.K
  h : I64 y.H
  n : U64 y.N
def lastN : Int := 18446744073709551615
def beginF (L : List Tm) (most : Int) (S : ByteArray) : Sy × Int × List Tm :=
  let p := putF L most (textT S)
  if p.2.1 ≠ 0 then (zeroY, p.2.1, p.2.2) else (⟨p.1, 0, p.1, 0⟩, 0, p.2.2)
def sayF (L : List Tm) (most : Int) (y : Sy) (x : Int) : Sy × Int × List Tm :=
  let p := putF L most (hashT y.H x)
  if p.2.1 ≠ 0 then (zeroY, p.2.1, p.2.2) else (⟨y.CK, y.K, p.1, y.N⟩, 0, p.2.2)
def turnF (L : List Tm) (most : Int) (y : Sy) (x : Int) : Sy × Int × List Tm :=
  let p := mixF L most y.CK x
  if p.2.2.1 ≠ 0 then (zeroY, p.2.2.1, p.2.2.2) else (⟨p.1, p.2.1, y.H, 0⟩, 0, p.2.2.2)
def sealF (L : List Tm) (most : Int) (y : Sy) (x : Int) : Sy × Int × Int × List Tm :=
  if y.K = 0 ∨ y.N = lastN then (zeroY, 0, 7, L) else
    let p := putF L most (sealT y.K y.N y.H x)
    if p.2.1 ≠ 0 then (zeroY, 0, p.2.1, p.2.2) else
      let q := putF p.2.2 most (hashT y.H p.1)
      if q.2.1 ≠ 0 then (zeroY, 0, q.2.1, q.2.2) else (⟨y.CK, y.K, q.1, y.N + 1⟩, p.1, 0, q.2.2)
def unsealF (L : List Tm) (most : Int) (y : Sy) (x : Int) : Sy × Int × Int × List Tm :=
  if y.K = 0 ∨ y.N = lastN then (zeroY, 0, 7, L) else
    let p := openF L y.K y.N y.H x
    if p.2 ≠ 0 then (zeroY, 0, p.2, L) else
      let q := putF L most (hashT y.H x)
      if q.2.1 ≠ 0 then (zeroY, 0, q.2.1, q.2.2) else (⟨y.CK, y.K, q.1, y.N + 1⟩, p.1, 0, q.2.2)
def splitF (L : List Tm) (most : Int) (y : Sy) : Int × Int × Int × List Tm :=
  let p := putF L most (textT ⟨#[]⟩)
  if p.2.1 ≠ 0 then (0, 0, p.2.1, p.2.2) else mixF p.2.2 most y.CK p.1

section
variable {L L1 L2 : List Tm} {most : Int} {y : Sy} {x a b e f : Int}
theorem begin_no {S : ByteArray} (h : putF L most (textT S) = (a, e, L1)) (he : e ≠ 0) : beginF L most S = (zeroY, e, L1) := by simp [beginF, h, he]
theorem begin_yes {S : ByteArray} (h : putF L most (textT S) = (a, 0, L1)) : beginF L most S = (⟨a, 0, a, 0⟩, 0, L1) := by simp [beginF, h]
theorem say_no (h : putF L most (hashT y.H x) = (a, e, L1)) (he : e ≠ 0) : sayF L most y x = (zeroY, e, L1) := by simp [sayF, h, he]
theorem say_yes (h : putF L most (hashT y.H x) = (a, 0, L1)) : sayF L most y x = (⟨y.CK, y.K, a, y.N⟩, 0, L1) := by simp [sayF, h]
theorem turn_no (h : mixF L most y.CK x = (a, b, e, L1)) (he : e ≠ 0) : turnF L most y x = (zeroY, e, L1) := by simp [turnF, h, he]
theorem turn_yes (h : mixF L most y.CK x = (a, b, 0, L1)) : turnF L most y x = (⟨a, b, y.H, 0⟩, 0, L1) := by simp [turnF, h]
theorem seal_not (h : y.K = 0 ∨ y.N = lastN) : sealF L most y x = (zeroY, 0, 7, L) := by simp [sealF, h]
theorem seal_no1 (h0 : ¬ (y.K = 0 ∨ y.N = lastN)) (h : putF L most (sealT y.K y.N y.H x) = (a, e, L1)) (he : e ≠ 0) : sealF L most y x = (zeroY, 0, e, L1) := by simp [sealF, h0, h, he]
theorem seal_no2 (h0 : ¬ (y.K = 0 ∨ y.N = lastN)) (h : putF L most (sealT y.K y.N y.H x) = (a, 0, L1)) (h1 : putF L1 most (hashT y.H a) = (b, e, L2)) (he : e ≠ 0) : sealF L most y x = (zeroY, 0, e, L2) := by simp [sealF, h0, h, h1, he]
theorem seal_yes (h0 : ¬ (y.K = 0 ∨ y.N = lastN)) (h : putF L most (sealT y.K y.N y.H x) = (a, 0, L1)) (h1 : putF L1 most (hashT y.H a) = (b, 0, L2)) : sealF L most y x = (⟨y.CK, y.K, b, y.N + 1⟩, a, 0, L2) := by simp [sealF, h0, h, h1]
theorem unseal_not (h : y.K = 0 ∨ y.N = lastN) : unsealF L most y x = (zeroY, 0, 7, L) := by simp [unsealF, h]
theorem unseal_no1 (h0 : ¬ (y.K = 0 ∨ y.N = lastN)) (h : openF L y.K y.N y.H x = (a, e)) (he : e ≠ 0) : unsealF L most y x = (zeroY, 0, e, L) := by simp [unsealF, h0, h, he]
theorem unseal_no2 (h0 : ¬ (y.K = 0 ∨ y.N = lastN)) (h : openF L y.K y.N y.H x = (a, 0)) (h1 : putF L most (hashT y.H x) = (b, e, L2)) (he : e ≠ 0) : unsealF L most y x = (zeroY, 0, e, L2) := by simp [unsealF, h0, h, h1, he]
theorem unseal_yes (h0 : ¬ (y.K = 0 ∨ y.N = lastN)) (h : openF L y.K y.N y.H x = (a, 0)) (h1 : putF L most (hashT y.H x) = (b, 0, L2)) : unsealF L most y x = (⟨y.CK, y.K, b, y.N + 1⟩, a, 0, L2) := by simp [unsealF, h0, h, h1]
theorem split_no (h : putF L most (textT ⟨#[]⟩) = (a, e, L1)) (he : e ≠ 0) : splitF L most y = (0, 0, e, L1) := by simp [splitF, h, he]
theorem split_yes (h : putF L most (textT ⟨#[]⟩) = (a, 0, L1)) : splitF L most y = mixF L1 most y.CK a := by simp [splitF, h]
end

/-- Where there is room. -/
theorem begin_step {L : List Tm} {most : Int} (S : ByteArray) (hf : Fit L) (hS : S.size ≤ 1000) (hr : (L.length : Int) < most) :
    ∃ a L', beginF L most S = (⟨a, 0, a, 0⟩, 0, L') ∧ Named L' a (textT S) ∧ Ext L L' ∧ L'.length ≤ L.length + 1 ∧ Fit L' := by
  obtain ⟨a, L', h1, h2, h3, h4⟩ := put_named L most (textT S) (may_textT hS) hr
  exact ⟨a, L', begin_yes h1, h2, h3, h4, (put_fit hf (by omega) h1).1⟩
theorem say_step {L : List Tm} {most x : Int} {y : Sy} (hf : Fit L) (hh : 1 ≤ y.H ∧ y.H ≤ (L.length : Int)) (hx : 1 ≤ x ∧ x ≤ (L.length : Int)) (hr : (L.length : Int) < most) :
    ∃ a L', sayF L most y x = (⟨y.CK, y.K, a, y.N⟩, 0, L') ∧ Named L' a (hashT y.H x) ∧ Ext L L' ∧ L'.length ≤ L.length + 1 ∧ Fit L' := by
  obtain ⟨a, L', h1, h2, h3, h4, h5⟩ := hash_step (most := most) hf hh hx hr
  exact ⟨a, L', say_yes h1, h2, h3, h4, h5⟩
theorem turn_step {L : List Tm} {most x : Int} {y : Sy} (hf : Fit L) (hk : 1 ≤ y.CK ∧ y.CK ≤ (L.length : Int)) (hx : 1 ≤ x ∧ x ≤ (L.length : Int)) (hr : (L.length : Int) + 2 < most) :
    ∃ a b L', turnF L most y x = (⟨a, b, y.H, 0⟩, 0, L') ∧ Mixed L' y.CK x a b ∧ Ext L L' ∧ L'.length ≤ L.length + 3 ∧ Fit L' := by
  obtain ⟨a, b, L', h1, h2, h3, h4, h5⟩ := mix_step (most := most) hf hk hx hr
  exact ⟨a, b, L', turn_yes h1, h2, h3, h4, h5⟩
theorem Mixed.in {L : List Tm} {k i a b : Int} (h : Mixed L k i a b) : (1 ≤ a ∧ a ≤ (L.length : Int)) ∧ (1 ≤ b ∧ b ≤ (L.length : Int)) := by
  obtain ⟨n, h1, h2, h3⟩ := h
  exact ⟨h2.in, h3.in⟩
theorem Mixed.lt {L : List Tm} (hf : Fit L) {k i a b : Int} (h : Mixed L k i a b) : k < a ∧ i < a ∧ k < b ∧ i < b ∧ a ≠ b := by
  obtain ⟨n, h1, h2, h3⟩ := h
  have q1 := h1.hash_lt hf
  have q2 := h2.key_lt hf
  have q3 := h3.key_lt hf
  refine ⟨by omega, by omega, by omega, by omega, ?_⟩
  rw [Ne, h2.inj h3, key_eq]; omega
theorem Mixed.inj1 {L : List Tm} {k i a b k' i' a' b' : Int} (h : Mixed L k i a b) (g : Mixed L k' i' a' b') : a = a' ↔ k = k' ∧ i = i' := by
  obtain ⟨n, h1, h2, h3⟩ := h
  obtain ⟨m, g1, g2, g3⟩ := g
  rw [h2.inj g2, key_eq, h1.inj g1, hash_eq]; simp
theorem Mixed.inj2 {L : List Tm} {k i a b k' i' a' b' : Int} (h : Mixed L k i a b) (g : Mixed L k' i' a' b') : b = b' ↔ k = k' ∧ i = i' := by
  obtain ⟨n, h1, h2, h3⟩ := h
  obtain ⟨m, g1, g2, g3⟩ := g
  rw [h3.inj g3, key_eq, h1.inj g1, hash_eq]; simp
theorem Mixed.ne {L : List Tm} {k i a b k' i' a' b' : Int} (h : Mixed L k i a b) (g : Mixed L k' i' a' b') : a ≠ b' := by
  obtain ⟨n, h1, h2, h3⟩ := h
  obtain ⟨m, g1, g2, g3⟩ := g
  rw [Ne, h2.inj g3, key_eq]; omega
theorem mix_old {L : List Tm} {most k i a b : Int} (hk : 1 ≤ k ∧ k ≤ (L.length : Int)) (hi : 1 ≤ i ∧ i ≤ (L.length : Int)) (h : Mixed L k i a b) : mixF L most k i = (a, b, 0, L) := by
  obtain ⟨n, h1, h2, h3⟩ := h
  exact mix_yes (put_old h1 (may_hash hk hi)) (put_old h2 (may_key h1.in)) (put_old h3 (may_key h1.in))
theorem turn_old {L : List Tm} {most x a b : Int} {y : Sy} (hk : 1 ≤ y.CK ∧ y.CK ≤ (L.length : Int)) (hx : 1 ≤ x ∧ x ≤ (L.length : Int)) (h : Mixed L y.CK x a b) : turnF L most y x = (⟨a, b, y.H, 0⟩, 0, L) := turn_yes (mix_old hk hx h)
theorem say_old {L : List Tm} {most x a : Int} {y : Sy} (hk : 1 ≤ y.H ∧ y.H ≤ (L.length : Int)) (hx : 1 ≤ x ∧ x ≤ (L.length : Int)) (h : Named L a (hashT y.H x)) : sayF L most y x = (⟨y.CK, y.K, a, y.N⟩, 0, L) := say_yes (put_old h (may_hash hk hx))
theorem begin_old {L : List Tm} {most a : Int} {S : ByteArray} (hS : S.size ≤ 1000) (h : Named L a (textT S)) : beginF L most S = (⟨a, 0, a, 0⟩, 0, L) := begin_yes (put_old h (may_textT hS))
theorem seal_step {L : List Tm} {most x : Int} {y : Sy} (hf : Fit L) (hk : 1 ≤ y.K ∧ y.K ≤ (L.length : Int)) (hh : 1 ≤ y.H ∧ y.H ≤ (L.length : Int)) (hx : 1 ≤ x ∧ x ≤ (L.length : Int)) (hn : y.N ≠ lastN) (hr : (L.length : Int) + 1 < most) :
    ∃ c a L', sealF L most y x = (⟨y.CK, y.K, a, y.N + 1⟩, c, 0, L') ∧ Named L' c (sealT y.K y.N y.H x) ∧ Named L' a (hashT y.H c) ∧ Ext L L' ∧ L'.length ≤ L.length + 2 ∧ Fit L' := by
  obtain ⟨c, L1, e1, n1, x1, l1⟩ := put_named L most (sealT y.K y.N y.H x) (may_seal hk hh hx) (by omega)
  have f1 := (put_fit hf (by omega) e1).1
  obtain ⟨a, L2, e2, n2, x2, l2, f2⟩ := hash_step (most := most) f1 (x1.in hh) n1.in (by omega)
  exact ⟨c, a, L2, seal_yes (by omega) e1 e2, n1.ext x2, n2, x1.trans x2, by omega, f2⟩
theorem unseal_at {L : List Tm} {most c a p : Int} {y : Sy} (hk : 1 ≤ y.K ∧ y.K ≤ (L.length : Int)) (hh : 1 ≤ y.H ∧ y.H ≤ (L.length : Int)) (hn : y.N ≠ lastN) (h : Named L c (sealT y.K y.N y.H p)) (h2 : Named L a (hashT y.H c)) :
    unsealF L most y c = (⟨y.CK, y.K, a, y.N + 1⟩, p, 0, L) := by
  have ho := open_at (k' := y.K) (w' := y.N) (b' := y.H) h hk hh
  rw [if_pos ⟨rfl, rfl, rfl⟩] at ho
  exact unseal_yes (by omega) ho (put_old h2 (may_hash hh h.in))
theorem unseal_bad {L : List Tm} {most c p k w b : Int} {y : Sy} (hk : 1 ≤ y.K ∧ y.K ≤ (L.length : Int)) (hh : 1 ≤ y.H ∧ y.H ≤ (L.length : Int)) (hn : y.N ≠ lastN) (h : Named L c (sealT k w b p)) (hne : ¬ (y.K = k ∧ y.N = w ∧ y.H = b)) :
    unsealF L most y c = (zeroY, 0, 9, L) := by
  have ho := open_at (k' := y.K) (w' := y.N) (b' := y.H) h hk hh
  rw [if_neg hne] at ho
  exact unseal_no1 (by omega) ho (by decide)
theorem split_step {L : List Tm} {most : Int} {y : Sy} (hf : Fit L) (hk : 1 ≤ y.CK ∧ y.CK ≤ (L.length : Int)) (hr : (L.length : Int) + 3 < most) :
    ∃ t a b L', splitF L most y = (a, b, 0, L') ∧ Named L' t (textT ⟨#[]⟩) ∧ Mixed L' y.CK t a b ∧ Ext L L' ∧ L'.length ≤ L.length + 4 ∧ Fit L' := by
  obtain ⟨t, L1, e1, n1, x1, l1⟩ := put_named L most (textT ⟨#[]⟩) (may_textT (by decide)) (by omega)
  have f1 := (put_fit hf (by omega) e1).1
  obtain ⟨a, b, L2, e2, m2, x2, l2, f2⟩ := mix_step (most := most) f1 (x1.in hk) n1.in (by omega)
  exact ⟨t, a, b, L2, by rw [split_yes e1]; exact e2, n1.ext x2, m2, x1.trans x2, by omega, f2⟩
theorem split_old {L : List Tm} {most t a b : Int} {y : Sy} (hk : 1 ≤ y.CK ∧ y.CK ≤ (L.length : Int)) (ht : Named L t (textT ⟨#[]⟩)) (h : Mixed L y.CK t a b) : splitF L most y = (a, b, 0, L) := by
  rw [split_yes (put_old ht (may_textT (by decide)))]
  exact mix_old hk ht.in h
end Go.Proofs.Ytlejejeflgnglaa
