/- Parts of messages: what a part is, which may be, its bytes, the part that bytes are; encoded and decoded. No program is named here. -/
import Derived.Test.YtjcgckhheegonaaVintG
import Derived.Test.YtjcgckhheegonaaVintP
namespace Go.Proofs.Ytjcgckhheegonaa
open Go.RowKit
set_option linter.unusedVariables false
set_option linter.unusedSimpArgs false
set_option maxRecDepth 20000

/-- A part: the message's number, its place, how many there are, its bytes. -/
structure Fr where
  id : Int
  ix : Int
  ct : Int
  s : ByteArray
def Fr.cl (f : Fr) : Array Value := #[.int .u64 f.id, .int .i64 f.ix, .int .i64 f.ct, .string f.s]
def Fr.v (f : Fr) : Value := .agg f.cl
structure Fr.Wf (f : Fr) : Prop where
  id : (Lit.int .u64 f.id).wf = true
  ix : (Lit.int .i64 f.ix).wf = true
  ct : (Lit.int .i64 f.ct).wf = true
  s : f.s.size ≤ maxLen
def zeroF : Fr := ⟨0, 0, 0, ⟨#[]⟩⟩
def rightF (f : Fr) : Bool := decide (1 ≤ f.id) && (decide (f.id ≤ 4294967296) && (decide (1 ≤ f.ct) && (decide (f.ct ≤ 16) && (decide (0 ≤ f.ix) && (decide (f.ix < f.ct) && (decide (1 ≤ f.s.size) && decide (f.s.size ≤ 1000)))))))
theorem rightF_iff {f : Fr} : rightF f = true ↔ 1 ≤ f.id ∧ f.id ≤ 4294967296 ∧ 1 ≤ f.ct ∧ f.ct ≤ 16 ∧ 0 ≤ f.ix ∧ f.ix < f.ct ∧ 1 ≤ f.s.size ∧ f.s.size ≤ 1000 := by
  simp only [rightF, Bool.and_eq_true, decide_eq_true_eq]
theorem right_zero : rightF zeroF = false := rfl
def encF (f : Fr) : ByteArray := if rightF f = true then ((putS f.id.toNat ++ putS f.ix.toNat) ++ putS f.ct.toNat) ++ f.s else ⟨#[]⟩
def decEnd (f : Fr) : Fr × Nat := if rightF f = true then (f, 0) else (zeroF, 3)
def decF (s : ByteArray) : Fr × Nat := match getA s.data.toList 0 with
  | (n, p, 0) => match getA s.data.toList p with
    | (x, q, 0) => match getA s.data.toList q with
      | (c, r, 0) => decEnd ⟨n, x, c, s.extract r s.size⟩
      | (_, _, e) => (zeroF, e)
    | (_, _, e) => (zeroF, e)
  | (_, _, e) => (zeroF, e)
theorem decF_1 {s : ByteArray} {n p e : Nat} (h : getA s.data.toList 0 = (n, p, e)) (he : e ≠ 0) : decF s = (zeroF, e) := by
  cases e with
  | zero => exact absurd rfl he
  | succ k => unfold decF; simp only [h]
theorem decF_2 {s : ByteArray} {n p x q e : Nat} (h : getA s.data.toList 0 = (n, p, 0)) (h2 : getA s.data.toList p = (x, q, e)) (he : e ≠ 0) : decF s = (zeroF, e) := by
  cases e with
  | zero => exact absurd rfl he
  | succ k => unfold decF; simp only [h, h2]
theorem decF_3 {s : ByteArray} {n p x q c r e : Nat} (h : getA s.data.toList 0 = (n, p, 0)) (h2 : getA s.data.toList p = (x, q, 0)) (h3 : getA s.data.toList q = (c, r, e)) (he : e ≠ 0) : decF s = (zeroF, e) := by
  cases e with
  | zero => exact absurd rfl he
  | succ k => unfold decF; simp only [h, h2, h3]
theorem decF_4 {s : ByteArray} {n p x q c r : Nat} (h : getA s.data.toList 0 = (n, p, 0)) (h2 : getA s.data.toList p = (x, q, 0)) (h3 : getA s.data.toList q = (c, r, 0)) : decF s = decEnd ⟨n, x, c, s.extract r s.size⟩ := by
  unfold decF; simp only [h, h2, h3]

theorem app_list (a b : ByteArray) : (a ++ b).data.toList = a.data.toList ++ b.data.toList := by simp
theorem list_len (a : ByteArray) : a.data.toList.length = a.size := by simp
theorem list_ext {a b : ByteArray} (h : a.data.toList = b.data.toList) : a = b := by
  apply ByteArray.ext; apply Array.ext'; exact h
theorem putS_list (n : Nat) : (putS n).data.toList = put n := by simp [putS]
theorem enc_list {f : Fr} (h : rightF f = true) : (encF f).data.toList = put f.id.toNat ++ (put f.ix.toNat ++ (put f.ct.toNat ++ f.s.data.toList)) := by
  unfold encF
  rw [if_pos h, app_list, app_list, app_list, putS_list, putS_list, putS_list, List.append_assoc, List.append_assoc]
theorem enc_no {f : Fr} (h : rightF f = false) : encF f = ⟨#[]⟩ := by
  unfold encF; rw [if_neg (by rw [h]; decide)]
theorem getA_start (r : List UInt8) (n : Nat) (hn : n ≤ 18446744073709551615) : getA (put n ++ r) 0 = (n, (put n).length, 0) := by
  have := getA_at [] r n hn
  simpa using this
theorem extract_list (s : ByteArray) (a b : Nat) : (s.extract a b).data.toList = (s.data.toList.take b).drop a := by
  simp [List.drop_take]
theorem dec_enc {f : Fr} (h : rightF f = true) : decF (encF f) = (f, 0) := by
  obtain ⟨h1, h2, h3, h4, h5, h6, h7, h8⟩ := rightF_iff.1 h
  have hl := enc_list h
  have g1 : getA (encF f).data.toList 0 = (f.id.toNat, (put f.id.toNat).length, 0) := by rw [hl]; exact getA_start _ _ (by omega)
  have g2 : getA (encF f).data.toList ((put f.id.toNat).length : Nat) = (f.ix.toNat, (put f.id.toNat).length + (put f.ix.toNat).length, 0) := by rw [hl]; exact getA_at _ _ _ (by omega)
  have g3 : getA (encF f).data.toList ((put f.id.toNat).length + (put f.ix.toNat).length : Nat) = (f.ct.toNat, (put f.id.toNat).length + (put f.ix.toNat).length + (put f.ct.toNat).length, 0) := by
    have := getA_at (put f.id.toNat ++ put f.ix.toNat) f.s.data.toList f.ct.toNat (by omega)
    rw [List.length_append, List.append_assoc] at this
    rw [hl]; exact this
  rw [decF_4 g1 g2 g3]
  have e : (encF f).extract ((put f.id.toNat).length + (put f.ix.toNat).length + (put f.ct.toNat).length) (encF f).size = f.s := by
    apply list_ext
    rw [extract_list, List.take_of_length_le (by rw [list_len]; exact Nat.le_refl _), hl, ← List.append_assoc, ← List.append_assoc, ← List.length_append, ← List.length_append, List.drop_left]
  have e2 : (⟨(f.id.toNat : Int), (f.ix.toNat : Int), (f.ct.toNat : Int), f.s⟩ : Fr) = f := by
    have a1 : (f.id.toNat : Int) = f.id := by omega
    have a2 : (f.ix.toNat : Int) = f.ix := by omega
    have a3 : (f.ct.toNat : Int) = f.ct := by omega
    rw [a1, a2, a3]
  rw [e, e2, decEnd, if_pos h]
theorem get_back {L : List UInt8} {p n q : Nat} (hp : p ≤ L.length) (h : getA L p = (n, q, 0)) : p ≤ q ∧ q ≤ L.length ∧ L.drop p = put n ++ L.drop q := by
  unfold getA at h
  rw [if_neg (by omega)] at h
  simp only [Int.toNat_natCast] at h
  obtain ⟨h1, h2, h3⟩ := look_ok _ true 0 p n q h (by simp) (by simp)
  rw [List.length_drop] at h2
  refine ⟨by omega, by omega, ?_⟩
  rw [hi_zero, List.nil_append] at h3
  rw [h3]
  have := (List.take_append_drop (q - p) (L.drop p)).symm
  rw [List.drop_drop, show p + (q - p) = q by omega] at this
  exact this
theorem dec_back {s : ByteArray} {f : Fr} (h : decF s = (f, 0)) : rightF f = true ∧ encF f = s := by
  obtain ⟨n, p, e, g1⟩ : ∃ n p e, getA s.data.toList 0 = (n, p, e) := ⟨_, _, _, rfl⟩
  by_cases he : e = 0
  · subst he
    obtain ⟨x, q, e, g2⟩ : ∃ n q e, getA s.data.toList (p : Nat) = (n, q, e) := ⟨_, _, _, rfl⟩
    by_cases he : e = 0
    · subst he
      obtain ⟨c, r, e, g3⟩ : ∃ n r e, getA s.data.toList (q : Nat) = (n, r, e) := ⟨_, _, _, rfl⟩
      by_cases he : e = 0
      · subst he
        rw [decF_4 g1 g2 g3, decEnd] at h
        by_cases hr : rightF ⟨n, x, c, s.extract r s.size⟩ = true
        · rw [if_pos hr] at h
          simp only [Prod.mk.injEq, and_true] at h
          subst h
          refine ⟨hr, list_ext ?_⟩
          rw [enc_list hr]
          obtain ⟨_, b1, c1⟩ := get_back (L := s.data.toList) (p := 0) (Nat.zero_le _) g1
          obtain ⟨_, b2, c2⟩ := get_back b1 g2
          obtain ⟨_, b3, c3⟩ := get_back b2 g3
          rw [List.drop_zero] at c1
          show put (n : Int).toNat ++ (put (x : Int).toNat ++ (put (c : Int).toNat ++ _)) = _
          rw [Int.toNat_natCast, Int.toNat_natCast, Int.toNat_natCast, extract_list, List.take_of_length_le (by rw [list_len]; exact Nat.le_refl _), ← c3, ← c2, ← c1]
        · rw [if_neg hr] at h
          simp only [Prod.mk.injEq] at h
          exact absurd h.2 (by decide)
      · rw [decF_3 g1 g2 g3 he] at h; simp only [Prod.mk.injEq] at h; exact absurd h.2 he
    · rw [decF_2 g1 g2 he] at h; simp only [Prod.mk.injEq] at h; exact absurd h.2 he
  · rw [decF_1 g1 he] at h; simp only [Prod.mk.injEq] at h; exact absurd h.2 he
theorem dec_zero {s : ByteArray} {f : Fr} {E : Nat} (h : decF s = (f, E)) (hE : E ≠ 0) : f = zeroF := by
  obtain ⟨n, p, e, g1⟩ : ∃ n p e, getA s.data.toList 0 = (n, p, e) := ⟨_, _, _, rfl⟩
  by_cases he : e = 0
  · subst he
    obtain ⟨x, q, e, g2⟩ : ∃ n q e, getA s.data.toList (p : Nat) = (n, q, e) := ⟨_, _, _, rfl⟩
    by_cases he : e = 0
    · subst he
      obtain ⟨c, r, e, g3⟩ : ∃ n r e, getA s.data.toList (q : Nat) = (n, r, e) := ⟨_, _, _, rfl⟩
      by_cases he : e = 0
      · subst he
        rw [decF_4 g1 g2 g3, decEnd] at h
        by_cases hr : rightF ⟨n, x, c, s.extract r s.size⟩ = true
        · rw [if_pos hr] at h; simp only [Prod.mk.injEq] at h; exact absurd h.2.symm hE
        · rw [if_neg hr] at h; simp only [Prod.mk.injEq] at h; exact h.1.symm
      · rw [decF_3 g1 g2 g3 he] at h; simp only [Prod.mk.injEq] at h; exact h.1.symm
    · rw [decF_2 g1 g2 he] at h; simp only [Prod.mk.injEq] at h; exact h.1.symm
  · rw [decF_1 g1 he] at h; simp only [Prod.mk.injEq] at h; exact h.1.symm
theorem wf_i64 {x : Int} : (Lit.int .i64 x).wf = true ↔ -9223372036854775808 ≤ x ∧ x ≤ 9223372036854775807 := by
  simp [Lit.wf, IntKind.bits, IntKind.signed, IntKind.min, IntKind.max]
theorem wf_u64 {x : Int} : (Lit.int .u64 x).wf = true ↔ 0 ≤ x ∧ x ≤ 18446744073709551615 := by
  simp [Lit.wf, IntKind.bits, IntKind.signed, IntKind.min, IntKind.max]
theorem right_wf {f : Fr} (h : rightF f = true) : f.Wf := by
  obtain ⟨h1, h2, h3, h4, h5, h6, h7, h8⟩ := rightF_iff.1 h
  exact ⟨wf_u64.2 (by omega), wf_i64.2 (by omega), wf_i64.2 (by omega), by unfold maxLen; omega⟩
theorem dec_wf {s : ByteArray} {f : Fr} {E : Nat} (h : decF s = (f, E)) : f.Wf := by
  by_cases hE : E = 0
  · subst hE; exact right_wf (dec_back h).1
  · rw [dec_zero h hE]; exact ⟨rfl, rfl, rfl, Nat.zero_le _⟩
theorem enc_len {f : Fr} (h : rightF f = true) : 1 ≤ (encF f).size ∧ (encF f).size ≤ 1030 := by
  obtain ⟨h1, h2, h3, h4, h5, h6, h7, h8⟩ := rightF_iff.1 h
  have a := put_le f.id.toNat (by omega)
  have b := put_le f.ix.toNat (by omega)
  have c := put_le f.ct.toNat (by omega)
  have d := put_length_pos f.id.toNat
  rw [← list_len, enc_list h]
  simp only [List.length_append, list_len]
  omega
theorem enc_inj {f g : Fr} (hf : rightF f = true) (hg : rightF g = true) (h : encF f = encF g) : f = g := by
  have h1 := dec_enc hf
  rw [h, dec_enc hg] at h1
  simp only [Prod.mk.injEq, and_true] at h1
  exact h1.symm
end Go.Proofs.Ytjcgckhheegonaa
