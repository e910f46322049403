/- Hashes, keys, what is mixed, and chains: contracts of the program's and the document's calls of layer 6, as functions of a store's terms. -/
/- What is hashed, derived, mixed and chained is named, where there is room. -/
/- A state of a handshake, and what begins, is said, mixed in, sealed, opened and split, as functions of a store's terms; where there is room, what each of them names. -/
import Derived.Test.YtgeonppckeiceaaGreatDoorGq03
import Derived.OneCell
import Derived.Test.YtgeonppckeiceaaGreatDoorGq01
import Derived.Test.YtgeonppckeiceaaGreatDoorGq04
namespace Go.Proofs.YtgeonppckeiceaaGreatDoor
open Go.RowKit
set_option linter.unusedVariables false
set_option linter.unusedSimpArgs false
def hashT (a b : Int) : Tm := ⟨8, ⟨#[]⟩, 0, a, b, 0⟩
def keyT (k n : Int) : Tm := ⟨9, ⟨#[]⟩, n, k, 0, 0⟩
theorem hash_wf {a b : Int} (ha : I64 a) (hb : I64 b) : Wf (hashT a b) := ⟨wf_emp, k8, u0, ha, hb, k0⟩
theorem key_wf {k n : Int} (hk : I64 k) (hn : U64 n) : Wf (keyT k n) := ⟨wf_emp, k9, hn, hk, k0, k0⟩
def mixF (L : List Tm) (most k i : Int) : Int × Int × Int × List Tm :=
 if (putF L most (hashT k i)).2.1 ≠ 0 then (0, 0, (putF L most (hashT k i)).2.1, (putF L most (hashT k i)).2.2) else
  let x := putF L most (hashT k i)
  let y := putF x.2.2 most (keyT x.1 1)
  if y.2.1 ≠ 0 then (0, 0, y.2.1, y.2.2) else
   let z := putF y.2.2 most (keyT x.1 2)
   if z.2.1 ≠ 0 then (0, 0, z.2.1, z.2.2) else (y.1, z.1, 0, z.2.2)
theorem mix_no1 {L L1 : List Tm} {most k i a e : Int} (h1 : putF L most (hashT k i) = (a, e, L1)) (he : e ≠ 0) : mixF L most k i = (0, 0, e, L1) := by
 simp [mixF, h1, he]
theorem mix_no2 {L L1 L2 : List Tm} {most k i a b e : Int} (h1 : putF L most (hashT k i) = (a, 0, L1)) (h2 : putF L1 most (keyT a 1) = (b, e, L2)) (he : e ≠ 0) : mixF L most k i = (0, 0, e, L2) := by
 simp [mixF, h1, h2, he]
theorem mix_no3 {L L1 L2 L3 : List Tm} {most k i a b c e : Int} (h1 : putF L most (hashT k i) = (a, 0, L1)) (h2 : putF L1 most (keyT a 1) = (b, 0, L2)) (h3 : putF L2 most (keyT a 2) = (c, e, L3)) (he : e ≠ 0) : mixF L most k i = (0, 0, e, L3) := by
 simp [mixF, h1, h2, h3, he]
theorem mix_yes {L L1 L2 L3 : List Tm} {most k i a b c : Int} (h1 : putF L most (hashT k i) = (a, 0, L1)) (h2 : putF L1 most (keyT a 1) = (b, 0, L2)) (h3 : putF L2 most (keyT a 2) = (c, 0, L3)) : mixF L most k i = (b, c, 0, L3) := by
 simp [mixF, h1, h2, h3]
theorem name_i64 {L L' : List Tm} {most a e : Int} {t : Tm} (hl : (L.length : Int) ≤ most) (hm : most ≤ 1048576) (h : putF L most t = (a, e, L')) : I64 a := by
 rcases putF_cases L most t with ⟨hp, _⟩ | ⟨j, hj, hp, _⟩ | ⟨hr, hp, _⟩ | ⟨hr, hp, _⟩
 all_goals
  have hh := hp.symm.trans h
  injection hh with a1 a2
  rw [← a1]
 ·exact k0
 ·exact i64_small (by omega) (by omega)
 ·exact k0
 ·exact i64_small (by omega) (by omega)
section
variable {base g : Nat} {most : Int} {Q1 Q2 : (Nat → Prop) → List Tm → World → Prop} {L L1 L2 : List Tm} {K : Nat → Prop} {w0 w : World}
theorem Pair.klt (h : Pair base Q1 Q2 L1 L2 K w0 w) : ∀ k, K k → k < w.heap.size := by
 obtain ⟨F1, F2, _, _, _, h4, _⟩ := h
 exact fun k hk => (h4 k hk).2.2
set_option maxHeartbeats 400000 in
theorem Pair.hashP {L' : List Tm} {a e x y : Int} (g2 : Good base Q2) (h : Pair base (PSq base g most) Q2 L L2 K w0 w) (hx : I64 x) (hy : I64 y) (hf : putF L most (hashT x y) = (a, e, L')) :
  Calls Tryz.prog 211 #[.pointer (some ⟨g, 0, none⟩), .int .i64 x, .int .i64 y] w (TwoK (.int .i64 a) (.int .i64 e) (Pair base (PSq base g most) Q2 L' L2 K w0) K w) := by
 have H := Lib.hid h
 have HX := Lib.hid hx
 have HY := Lib.hid hy
 have HF := Lib.hid hf
 clear h hx hy hf
 go_enter Tryz.func211, Tryz.ntmps211
 go_wp2_with fail
 refine (H.out.putP g2 (hashT x y) (hash_wf HX.out HY.out) HF.out).mono ?_
 rintro e w1 ⟨rfl, h1, hk⟩
 have H1 := Lib.hid h1
 have HK := Lib.hid hk
 clear h1 hk H HF
 go_wp2_with fail
 go_ret2
 exact ⟨rfl, H1.out, HK.out⟩
set_option maxHeartbeats 400000 in
theorem Pair.deriveP {L' : List Tm} {a e x n : Int} (g2 : Good base Q2) (h : Pair base (PSq base g most) Q2 L L2 K w0 w) (hx : I64 x) (hy : U64 n) (hf : putF L most (keyT x n) = (a, e, L')) :
  Calls Tryz.prog 221 #[.pointer (some ⟨g, 0, none⟩), .int .i64 x, .int .u64 n] w (TwoK (.int .i64 a) (.int .i64 e) (Pair base (PSq base g most) Q2 L' L2 K w0) K w) := by
 have H := Lib.hid h
 have HX := Lib.hid hx
 have HY := Lib.hid hy
 have HF := Lib.hid hf
 clear h hx hy hf
 go_enter Tryz.func221, Tryz.ntmps221
 go_wp2_with fail
 refine (H.out.putP g2 (keyT x n) (key_wf HX.out HY.out) HF.out).mono ?_
 rintro e w1 ⟨rfl, h1, hk⟩
 have H1 := Lib.hid h1
 have HK := Lib.hid hk
 clear h1 hk H HF
 go_wp2_with fail
 go_ret2
 exact ⟨rfl, H1.out, HK.out⟩
set_option maxHeartbeats 2000000 in
theorem Pair.mixP {L' : List Tm} {a b e x i : Int} (g2 : Good base Q2) (h : Pair base (PSq base g most) Q2 L L2 K w0 w) (hx : I64 x) (hi : I64 i) (hf : mixF L most x i = (a, b, e, L')) :
  Calls Tryz.prog 210 #[.pointer (some ⟨g, 0, none⟩), .int .i64 x, .int .i64 i] w (Three (.int .i64 a) (.int .i64 b) (.int .i64 e) (Pair base (PSq base g most) Q2 L' L2 K w0) K w) := by
 obtain ⟨n1, f1, M1, q1⟩ : ∃ n f M, putF L most (hashT x i) = (n, f, M) := ⟨_, _, _, rfl⟩
 obtain ⟨n2, f2, M2, q2⟩ : ∃ n f M, putF M1 most (keyT n1 1) = (n, f, M) := ⟨_, _, _, rfl⟩
 obtain ⟨n3, f3, M3, q3⟩ : ∃ n f M, putF M2 most (keyT n1 2) = (n, f, M) := ⟨_, _, _, rfl⟩
 have HN1 := Lib.hid (name_i64 h.facts.2.1 h.facts.2.2 q1)
 have H := Lib.hid h
 have HX := Lib.hid hx
 have HI := Lib.hid hi
 have HF := Lib.hid hf
 have Q1 := Lib.hid q1
 have Q2' := Lib.hid q2
 have Q3 := Lib.hid q3
 clear h hx hi hf q1 q2 q3
 by_cases he1 : f1 = 0
 ·subst he1
  by_cases he2 : f2 = 0
  ·subst he2
   by_cases he3 : f3 = 0
   ·subst he3
    have hw := HF.out
    rw [mix_yes Q1.out Q2'.out Q3.out] at hw
    injection hw with e1 hw
    injection hw with e2 hw
    injection hw with e3 e4
    subst e1 e2 e3 e4
    clear HF
    go_enter Tryz.func210, Tryz.ntmps210
    go_wp2_with fail
    refine (H.out.hashP g2 HX.out HI.out Q1.out).mono ?_
    rintro e w1 ⟨rfl, hp, hk⟩
    have H1 := Lib.hid hp
    have HK1 := Lib.hid (hk)
    clear hp hk H
    go_wp2_with fail
    refine (H1.out.deriveP g2 HN1.out u1 Q2'.out).mono ?_
    rintro e w2 ⟨rfl, hp, hk⟩
    have H2 := Lib.hid hp
    have HK2 := Lib.hid (show ∀ k, K k → w2.heap[k]? = w.heap[k]? from fun k q => (hk k q).trans (HK1.out k q))
    clear hp hk H1 HK1
    go_wp2_with fail
    refine (H2.out.deriveP g2 HN1.out u2 Q3.out).mono ?_
    rintro e w3 ⟨rfl, hp, hk⟩
    have H3 := Lib.hid hp
    have HK3 := Lib.hid (show ∀ k, K k → w3.heap[k]? = w.heap[k]? from fun k q => (hk k q).trans (HK2.out k q))
    clear hp hk H2 HK2
    go_wp2_with fail
    go_ret3
    exact ⟨rfl, H3.out, HK3.out⟩
   ·have hne : (f3 != 0) = true := by simpa using he3
    have HE := Lib.hid he3
    clear he3
    have hw := HF.out
    rw [mix_no3 Q1.out Q2'.out Q3.out HE.out] at hw
    injection hw with e1 hw
    injection hw with e2 hw
    injection hw with e3 e4
    subst e1 e2 e3 e4
    clear HF
    go_enter Tryz.func210, Tryz.ntmps210
    go_wp2_with fail
    refine (H.out.hashP g2 HX.out HI.out Q1.out).mono ?_
    rintro e w1 ⟨rfl, hp, hk⟩
    have H1 := Lib.hid hp
    have HK1 := Lib.hid (hk)
    clear hp hk H
    go_wp2_with fail
    refine (H1.out.deriveP g2 HN1.out u1 Q2'.out).mono ?_
    rintro e w2 ⟨rfl, hp, hk⟩
    have H2 := Lib.hid hp
    have HK2 := Lib.hid (show ∀ k, K k → w2.heap[k]? = w.heap[k]? from fun k q => (hk k q).trans (HK1.out k q))
    clear hp hk H1 HK1
    go_wp2_with fail
    refine (H2.out.deriveP g2 HN1.out u2 Q3.out).mono ?_
    rintro e w3 ⟨rfl, hp, hk⟩
    have H3 := Lib.hid hp
    have HK3 := Lib.hid (show ∀ k, K k → w3.heap[k]? = w.heap[k]? from fun k q => (hk k q).trans (HK2.out k q))
    clear hp hk H2 HK2
    go_wp2_with fail
    go_ret3
    exact ⟨rfl, H3.out, HK3.out⟩
  ·have hne : (f2 != 0) = true := by simpa using he2
   have HE := Lib.hid he2
   clear he2
   have hw := HF.out
   rw [mix_no2 Q1.out Q2'.out HE.out] at hw
   injection hw with e1 hw
   injection hw with e2 hw
   injection hw with e3 e4
   subst e1 e2 e3 e4
   clear HF
   go_enter Tryz.func210, Tryz.ntmps210
   go_wp2_with fail
   refine (H.out.hashP g2 HX.out HI.out Q1.out).mono ?_
   rintro e w1 ⟨rfl, hp, hk⟩
   have H1 := Lib.hid hp
   have HK1 := Lib.hid (hk)
   clear hp hk H
   go_wp2_with fail
   refine (H1.out.deriveP g2 HN1.out u1 Q2'.out).mono ?_
   rintro e w2 ⟨rfl, hp, hk⟩
   have H2 := Lib.hid hp
   have HK2 := Lib.hid (show ∀ k, K k → w2.heap[k]? = w.heap[k]? from fun k q => (hk k q).trans (HK1.out k q))
   clear hp hk H1 HK1
   go_wp2_with fail
   go_ret3
   exact ⟨rfl, H2.out, HK2.out⟩
 ·have hne : (f1 != 0) = true := by simpa using he1
  have HE := Lib.hid he1
  clear he1
  have hw := HF.out
  rw [mix_no1 Q1.out HE.out] at hw
  injection hw with e1 hw
  injection hw with e2 hw
  injection hw with e3 e4
  subst e1 e2 e3 e4
  clear HF
  go_enter Tryz.func210, Tryz.ntmps210
  go_wp2_with fail
  refine (H.out.hashP g2 HX.out HI.out Q1.out).mono ?_
  rintro e w1 ⟨rfl, hp, hk⟩
  have H1 := Lib.hid hp
  have HK1 := Lib.hid (hk)
  clear hp hk H
  go_wp2_with fail
  go_ret3
  exact ⟨rfl, H1.out, HK1.out⟩
end
theorem may_hash {n : Nat} {a b : Int} (h1 : 1 ≤ a ∧ a ≤ (n : Int)) (h2 : 1 ≤ b ∧ b ≤ (n : Int)) : (hashT a b).may n = true := by
 rw [may_iff]
 simp [May, below3, BadP, many, prt, hashT, sz0]
 omega
theorem may_key {n : Nat} {k w : Int} (h1 : 1 ≤ k ∧ k ≤ (n : Int)) : (keyT k w).may n = true := by
 rw [may_iff]
 simp [May, below3, BadP, many, prt, keyT, sz0]
 omega
theorem Ext.in {L L' : List Tm} (h : Ext L L') {x : Int} (hx : 1 ≤ x ∧ x ≤ (L.length : Int)) : 1 ≤ x ∧ x ≤ (L'.length : Int) := ⟨hx.1, h.len hx.2⟩
theorem Named.in {L : List Tm} {a : Int} {t : Tm} (h : Named L a t) : 1 ≤ a ∧ a ≤ (L.length : Int) := ⟨h.at.1, h.at.2.1⟩
structure Sy where
 CK : Int
 K : Int
 H : Int
 N : Int
def Sy.v (y : Sy) : Value := .agg #[.int .i64 y.CK, .int .i64 y.K, .int .i64 y.H, .int .u64 y.N]
def zeroY : Sy := ⟨0, 0, 0, 0⟩
structure Sy.Wf (y : Sy) : Prop where
 ck : I64 y.CK
 k : I64 y.K
 h : I64 y.H
 n : U64 y.N
def lastN : Int := 18446744073709551615
def beginF (L : List Tm) (most : Int) (S : ByteArray) : Sy × Int × List Tm :=
 let p := putF L most (textT S)
 if p.2.1 ≠ 0 then (zeroY, p.2.1, p.2.2) else (⟨p.1, 0, p.1, 0⟩, 0, p.2.2)
def sayF (L : List Tm) (most : Int) (y : Sy) (x : Int) : Sy × Int × List Tm :=
 let p := putF L most (hashT y.H x)
 if p.2.1 ≠ 0 then (zeroY, p.2.1, p.2.2) else (⟨y.CK, y.K, p.1, y.N⟩, 0, p.2.2)
def turnF (L : List Tm) (most : Int) (y : Sy) (x : Int) : Sy × Int × List Tm :=
 let p := mixF L most y.CK x
 if p.2.2.1 ≠ 0 then (zeroY, p.2.2.1, p.2.2.2) else (⟨p.1, p.2.1, y.H, 0⟩, 0, p.2.2.2)
def sealF (L : List Tm) (most : Int) (y : Sy) (x : Int) : Sy × Int × Int × List Tm :=
 if y.K = 0 ∨ y.N = lastN then (zeroY, 0, 7, L) else
  let p := putF L most (sealT y.K y.N y.H x)
  if p.2.1 ≠ 0 then (zeroY, 0, p.2.1, p.2.2) else
   let q := putF p.2.2 most (hashT y.H p.1)
   if q.2.1 ≠ 0 then (zeroY, 0, q.2.1, q.2.2) else (⟨y.CK, y.K, q.1, y.N + 1⟩, p.1, 0, q.2.2)
def unsealF (L : List Tm) (most : Int) (y : Sy) (x : Int) : Sy × Int × Int × List Tm :=
 if y.K = 0 ∨ y.N = lastN then (zeroY, 0, 7, L) else
  let p := openF L y.K y.N y.H x
  if p.2 ≠ 0 then (zeroY, 0, p.2, L) else
   let q := putF L most (hashT y.H x)
   if q.2.1 ≠ 0 then (zeroY, 0, q.2.1, q.2.2) else (⟨y.CK, y.K, q.1, y.N + 1⟩, p.1, 0, q.2.2)
def splitF (L : List Tm) (most : Int) (y : Sy) : Int × Int × Int × List Tm :=
 let p := putF L most (textT ⟨#[]⟩)
 if p.2.1 ≠ 0 then (0, 0, p.2.1, p.2.2) else mixF p.2.2 most y.CK p.1
section
variable {L L1 L2 : List Tm} {most : Int} {y : Sy} {x a b e f : Int}
theorem begin_no {S : ByteArray} (h : putF L most (textT S) = (a, e, L1)) (he : e ≠ 0) : beginF L most S = (zeroY, e, L1) := by simp [beginF, h, he]
theorem begin_yes {S : ByteArray} (h : putF L most (textT S) = (a, 0, L1)) : beginF L most S = (⟨a, 0, a, 0⟩, 0, L1) := by simp [beginF, h]
theorem say_no (h : putF L most (hashT y.H x) = (a, e, L1)) (he : e ≠ 0) : sayF L most y x = (zeroY, e, L1) := by simp [sayF, h, he]
theorem say_yes (h : putF L most (hashT y.H x) = (a, 0, L1)) : sayF L most y x = (⟨y.CK, y.K, a, y.N⟩, 0, L1) := by simp [sayF, h]
theorem turn_no (h : mixF L most y.CK x = (a, b, e, L1)) (he : e ≠ 0) : turnF L most y x = (zeroY, e, L1) := by simp [turnF, h, he]
theorem turn_yes (h : mixF L most y.CK x = (a, b, 0, L1)) : turnF L most y x = (⟨a, b, y.H, 0⟩, 0, L1) := by simp [turnF, h]
theorem seal_not (h : y.K = 0 ∨ y.N = lastN) : sealF L most y x = (zeroY, 0, 7, L) := by simp [sealF, h]
theorem seal_no1 (h0 : ¬ (y.K = 0 ∨ y.N = lastN)) (h : putF L most (sealT y.K y.N y.H x) = (a, e, L1)) (he : e ≠ 0) : sealF L most y x = (zeroY, 0, e, L1) := by simp [sealF, h0, h, he]
theorem seal_no2 (h0 : ¬ (y.K = 0 ∨ y.N = lastN)) (h : putF L most (sealT y.K y.N y.H x) = (a, 0, L1)) (h1 : putF L1 most (hashT y.H a) = (b, e, L2)) (he : e ≠ 0) : sealF L most y x = (zeroY, 0, e, L2) := by simp [sealF, h0, h, h1, he]
theorem seal_yes (h0 : ¬ (y.K = 0 ∨ y.N = lastN)) (h : putF L most (sealT y.K y.N y.H x) = (a, 0, L1)) (h1 : putF L1 most (hashT y.H a) = (b, 0, L2)) : sealF L most y x = (⟨y.CK, y.K, b, y.N + 1⟩, a, 0, L2) := by simp [sealF, h0, h, h1]
theorem unseal_not (h : y.K = 0 ∨ y.N = lastN) : unsealF L most y x = (zeroY, 0, 7, L) := by simp [unsealF, h]
theorem unseal_no1 (h0 : ¬ (y.K = 0 ∨ y.N = lastN)) (h : openF L y.K y.N y.H x = (a, e)) (he : e ≠ 0) : unsealF L most y x = (zeroY, 0, e, L) := by simp [unsealF, h0, h, he]
theorem unseal_no2 (h0 : ¬ (y.K = 0 ∨ y.N = lastN)) (h : openF L y.K y.N y.H x = (a, 0)) (h1 : putF L most (hashT y.H x) = (b, e, L2)) (he : e ≠ 0) : unsealF L most y x = (zeroY, 0, e, L2) := by simp [unsealF, h0, h, h1, he]
theorem unseal_yes (h0 : ¬ (y.K = 0 ∨ y.N = lastN)) (h : openF L y.K y.N y.H x = (a, 0)) (h1 : putF L most (hashT y.H x) = (b, 0, L2)) : unsealF L most y x = (⟨y.CK, y.K, b, y.N + 1⟩, a, 0, L2) := by simp [unsealF, h0, h, h1]
theorem split_no (h : putF L most (textT ⟨#[]⟩) = (a, e, L1)) (he : e ≠ 0) : splitF L most y = (0, 0, e, L1) := by simp [splitF, h, he]
theorem split_yes (h : putF L most (textT ⟨#[]⟩) = (a, 0, L1)) : splitF L most y = mixF L1 most y.CK a := by simp [splitF, h]
end
theorem unseal_bad {L : List Tm} {most c p k w b : Int} {y : Sy} (hk : 1 ≤ y.K ∧ y.K ≤ (L.length : Int)) (hh : 1 ≤ y.H ∧ y.H ≤ (L.length : Int)) (hn : y.N ≠ lastN) (h : Named L c (sealT k w b p)) (hne : ¬ (y.K = k ∧ y.N = w ∧ y.H = b)) :
  unsealF L most y c = (zeroY, 0, 9, L) := by
 have ho := open_at (k' := y.K) (w' := y.N) (b' := y.H) h hk hh
 rw [if_neg hne] at ho
 exact unseal_no1 (by omega) ho (by decide)
end Go.Proofs.YtgeonppckeiceaaGreatDoor
