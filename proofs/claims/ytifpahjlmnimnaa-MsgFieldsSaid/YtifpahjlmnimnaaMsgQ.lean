/- Whole messages: encoded and decoded, cut off, with more behind them; two of them. No program is named here. -/
import Derived.Test.YtifpahjlmnimnaaMsgP
namespace Go.Proofs.Ytifpahjlmnimnaa
open Go.RowKit
set_option linter.unusedVariables false
set_option linter.unusedSimpArgs false
set_option maxRecDepth 20000

/-- Nothing stands where no cell is. -/
def Norm (M : Ms) : Prop := ∀ j, (j = 3 ∨ 13 ≤ j) → M.i j = 0
theorem Norm.eq {A B : Ms} (hA : Norm A) (hB : Norm B) (h : A.cl = B.cl) : A = B := by
  have h' := (eqM_iff A B).2 h
  simp only [eqM, Bool.and_eq_true, beq_iff_eq, toList_iff] at h'
  obtain ⟨h0, h1, h2, h3, h4, h5, h6, h7, h8, h9, h10, h11, h12⟩ := h'
  obtain ⟨a, s⟩ := A
  obtain ⟨b, t⟩ := B
  have hi : a = b := by
    funext j
    match j with
    | 0 => exact h0
    | 1 => exact h1
    | 2 => exact h2
    | 3 => exact (hA 3 (.inl rfl)).trans (hB 3 (.inl rfl)).symm
    | 4 => exact h4
    | 5 => exact h5
    | 6 => exact h6
    | 7 => exact h7
    | 8 => exact h8
    | 9 => exact h9
    | 10 => exact h10
    | 11 => exact h11
    | 12 => exact h12
    | n + 13 => exact (hA _ (.inr (by omega))).trans (hB _ (.inr (by omega))).symm
  rw [hi, show s = t from h3]
theorem Norm.zero (k : Int) : Norm (zeroM k) := fun j hj => by simp only [zeroM]; rw [if_neg (by omega)]
theorem Norm.setS {M : Ms} (h : Norm M) (t : ByteArray) : Norm (M.setS t) := h
theorem Norm.set {M : Ms} (h : Norm M) {k : Nat} (hk : k ≠ 3 ∧ k < 13) (x : Int) : Norm (M.set k x) := fun j hj => by
  simp only [Ms.set]; rw [if_neg (by omega)]; exact h j hj

theorem right_oks {M : Ms} (h : rightM M = true) : ∀ f, f ∈ fds (M.i 0) → f.ok M = true := by
  rcases fds_cases (M.i 0) with e | e | e | e | ⟨_, _, _, _, e⟩
  · obtain ⟨h1, h2, h3, h4, h5, h6, h7, h8, _⟩ := (right1_iff M e).1 h
    intro f hf
    rw [e] at hf
    simp only [fds, List.mem_cons, List.not_mem_nil, or_false] at hf
    rcases hf with rfl | rfl | rfl | rfl | rfl | rfl | rfl | rfl <;> simp only [Fd.ok] <;> assumption
  · obtain ⟨h1, h2, h3, h4, h5, _⟩ := (right2_iff M e).1 h
    intro f hf
    rw [e] at hf
    simp only [fds, List.mem_cons, List.not_mem_nil, or_false] at hf
    rcases hf with rfl | rfl | rfl | rfl | rfl <;> simp only [Fd.ok] <;> assumption
  · obtain ⟨h1, h2, _⟩ := (right3_iff M e).1 h
    intro f hf
    rw [e] at hf
    simp only [fds, List.mem_cons, List.not_mem_nil, or_false] at hf
    rcases hf with rfl | rfl <;> simp only [Fd.ok] <;> assumption
  · obtain ⟨h1, h2, h3, h4, _⟩ := (right4_iff M e).1 h
    intro f hf
    rw [e] at hf
    simp only [fds, List.mem_cons, List.not_mem_nil, or_false] at hf
    rcases hf with rfl | rfl | rfl | rfl <;> simp only [Fd.ok] <;> assumption
  · rw [right_nofds e] at h; cases h
theorem copy_full {M : Ms} (hn : Norm M) (h : rightM M = true) : copyL (fds (M.i 0)) M (zeroM (M.i 0)) = M := by
  have hz : Norm (copyL (fds (M.i 0)) M (zeroM (M.i 0))) := by
    have key : ∀ (l : List Fd), (∀ f, f ∈ l → f.Fit) → ∀ N, Norm N → Norm (copyL l M N) := by
      intro l
      induction l with
      | nil => intro _ N hN; exact hN
      | cons f t ih =>
        intro hl N hN
        rw [copyL]
        refine ih (fun g hg => hl g (List.mem_cons_of_mem _ hg)) _ ?_
        have hf := hl f List.mem_cons_self
        cases f with
        | ver => exact hN.setS _
        | int j lo hi => exact hN.set (by have := hf.1; omega) _
        | ses j lo hi => exact hN.set (by have := hf.1; omega) _
        | nam j => exact hN.set (by have : 6 ≤ j ∧ j ≤ 10 := hf; omega) _
    exact key _ (fun f hf => fds_fit hf) _ (Norm.zero _)
  refine hz.eq hn ((eqM_iff _ _).1 ?_)
  have he : ByteArray.empty.toList = ByteArray.empty.toList := rfl
  rcases fds_cases (M.i 0) with e | e | e | e | ⟨_, _, _, _, e⟩
  · obtain ⟨_, _, _, _, _, _, _, _, h1, h2, h3, h4⟩ := (right1_iff M e).1 h
    rw [e]
    simp [eqM, fds, copyL, Fd.copy, Ms.set, Ms.setS, zeroM, e, h1, h2, h3, h4]
  · obtain ⟨_, _, _, _, _, h1, h2, h3, h4, h5, h6, h7⟩ := (right2_iff M e).1 h
    rw [e]
    simp [eqM, fds, copyL, Fd.copy, Ms.set, Ms.setS, zeroM, e, h1, h2, h3, h4, h5, h6, h7]
  · obtain ⟨_, _, h1, h2, h3, h4, h5, h6, h7, h8, h9, h10⟩ := (right3_iff M e).1 h
    rw [e]
    simp [eqM, fds, copyL, Fd.copy, Ms.set, Ms.setS, zeroM, e, h1, h2, h3, h4, h5, h6, h7, h8, h9, h10]
  · obtain ⟨_, _, _, _, h1, h2, h3, h4, h5, h6, h7, h8⟩ := (right4_iff M e).1 h
    rw [e]
    simp [eqM, fds, copyL, Fd.copy, Ms.set, Ms.setS, zeroM, e, h1, h2, h3, h4, h5, h6, h7, h8]
  · rw [right_nofds e] at h; cases h
theorem kind_facts {M : Ms} (h : rightM M = true) : ((u64 (M.i 0) : Nat) : Int) = M.i 0 ∧ IntKind.i64.wrap ((u64 (M.i 0) : Nat) : Int) = M.i 0 ∧ 1 ≤ u64 (M.i 0) ∧ u64 (M.i 0) ≤ 4 := by
  have h1 : M.i 0 = 1 ∨ M.i 0 = 2 ∨ M.i 0 = 3 ∨ M.i 0 = 4 := by
    rcases fds_cases (M.i 0) with e | e | e | e | ⟨_, _, _, _, e⟩
    · exact .inl e
    · exact .inr (.inl e)
    · exact .inr (.inr (.inl e))
    · exact .inr (.inr (.inr e))
    · rw [right_nofds e] at h; cases h
  rcases h1 with e | e | e | e <;> rw [e] <;> decide
theorem enc_list {M : Ms} (h : rightM M = true) : (encM M).data.toList = put (u64 (M.i 0)) ++ byL (fds (M.i 0)) M := by
  unfold encM; rw [if_pos h, encL_list, putS_list]
theorem put_small {n : Nat} (h : n < 128) : put n = [UInt8.ofNat n] := by
  rw [put, show n / 128 = 0 by omega, hi_zero, show n % 128 = n by omega]; rfl
theorem byL_len (l : List Fd) {M : Ms} (h : M.s.size ≤ 8) : (byL l M).length ≤ 20 * l.length := by
  have one : ∀ f : Fd, (f.by M).size ≤ 20 := by
    intro f
    have hw : ∀ x, (putS (u64 x)).size ≤ 10 := fun x => putS_size _ (wrap_u x).2
    cases f with
    | ver =>
      have := putS_size M.s.size (by omega)
      simp only [Fd.by, ptS, ByteArray.size_append]; omega
    | int j lo hi => have := hw (M.i j); simp only [Fd.by]; omega
    | ses j lo hi => have := hw (M.i j); simp only [Fd.by]; omega
    | nam j => have := hw (M.i j); simp only [Fd.by]; omega
  induction l with
  | nil => simp [byL]
  | cons f t ih =>
    have := one f
    rw [byL, List.length_append, list_len, List.length_cons]; omega
theorem right_ofs {M : Ms} (h : rightM M = true) : M.s.size ≤ 8 := by
  rcases fds_cases (M.i 0) with e | e | e | e | ⟨_, _, _, _, e⟩
  · have := (right_iff.1 ((right1_iff M e).1 h).2.1).2.1
    rw [list_len] at this; exact this
  · have := ((right2_iff M e).1 h).2.2.2.2.2.1
    rw [this]; decide
  · have := ((right3_iff M e).1 h).2.2.2.1
    rw [this]; decide
  · have := ((right4_iff M e).1 h).2.2.2.2.2.1
    rw [this]; decide
  · rw [right_nofds e] at h; cases h
theorem enc_len {M : Ms} (h : rightM M = true) : 1 ≤ (encM M).size ∧ (encM M).size ≤ 200 := by
  have h1 := byL_len (fds (M.i 0)) (right_ofs h)
  have h2 := fds_len (M.i 0)
  have h3 := kind_facts h
  rw [← list_len, enc_list h, put_small (by omega)]
  simp only [List.length_append, List.length_cons, List.length_nil]
  omega
theorem enc_no {M : Ms} (h : rightM M = false) : encM M = ByteArray.empty := by
  unfold encM; rw [if_neg (by rw [h]; decide)]

theorem getA_start (r : List UInt8) (n : Nat) (hn : n ≤ 18446744073709551615) : getA (put n ++ r) 0 = (n, (put n).length, 0) := by
  have := getA_at [] r n hn
  simpa using this
theorem right_of_cl {A B : Ms} (h : A = B) : rightM A = rightM B := by rw [h]
theorem decM_ok {s : ByteArray} (h : ¬ 4096 < s.size) {n p : Nat} (hg : getA s.data.toList 0 = (n, p, 0)) : decM s = decEnd s (rdL s (fds (IntKind.i64.wrap n)) p (zeroM (IntKind.i64.wrap n))) := by
  unfold decM; rw [if_neg h, hg]; rfl
/-- What begins with a message's bytes. -/
theorem dec_start {M : Ms} (hn : Norm M) (hr : rightM M = true) (s : ByteArray) (r : List UInt8) (hs : s.data.toList = (encM M).data.toList ++ r) (hl : s.size ≤ 4096) :
    decM s = decEnd s ((encM M).size, M, 0) := by
  obtain ⟨k1, k2, k3, k4⟩ := kind_facts hr
  rw [enc_list hr, List.append_assoc] at hs
  have hg : getA s.data.toList 0 = (u64 (M.i 0), (put (u64 (M.i 0))).length, 0) := by rw [hs]; exact getA_start _ _ (by omega)
  rw [decM_ok (by omega) hg, k2, rd_at (fds (M.i 0)) M (fun f hf => fds_fit hf) (right_oks hr) (zeroM (M.i 0)) s (put (u64 (M.i 0))) r hs, copy_full hn hr]
  rw [← list_len (encM M), enc_list hr, List.length_append]
theorem dec_enc {M : Ms} (hn : Norm M) (hr : rightM M = true) : decM (encM M) = (M, 0) := by
  rw [dec_start hn hr (encM M) [] (by simp) (by have := (enc_len hr).2; omega)]
  simp [decEnd, hr]
theorem dec_more {M : Ms} (hn : Norm M) (hr : rightM M = true) (s : ByteArray) (c : UInt8) (hs : s.data.toList = (encM M).data.toList ++ [c]) : decM s = (zeroM 0, 3) := by
  have hsz : s.size = (encM M).size + 1 := by rw [← list_len, hs]; simp
  rw [dec_start hn hr s [c] hs (by have := (enc_len hr).2; omega)]
  have : decide ((encM M).size < s.size) = true := by simp; omega
  simp [decEnd, this]
theorem dec_cut {M : Ms} (hr : rightM M = true) (s : ByteArray) (c : Nat) (hc : c < (encM M).size) (hs : s.data.toList = (encM M).data.toList.take c) : decM s = (zeroM 0, 2) := by
  obtain ⟨k1, k2, k3, k4⟩ := kind_facts hr
  have hsz : s.size = c := by rw [← list_len, hs, List.length_take, list_len]; omega
  have hlen := (enc_len hr).2
  have hbig : ¬ 4096 < s.size := by omega
  have hp : (put (u64 (M.i 0))).length = 1 := by rw [put_small (by omega)]; rfl
  rw [enc_list hr] at hs
  by_cases h0 : c = 0
  · subst h0
    have hg : getA s.data.toList 0 = (0, 0, 2) := by rw [hs]; rfl
    unfold decM
    rw [if_neg (by omega), hg]
    rfl
  · have hs' : s.data.toList = put (u64 (M.i 0)) ++ (byL (fds (M.i 0)) M).take (c - 1) := by
      rw [hs, List.take_append, List.take_of_length_le (by omega), hp]
    have hg : getA s.data.toList 0 = (u64 (M.i 0), (put (u64 (M.i 0))).length, 0) := by rw [hs']; exact getA_start _ _ (by omega)
    rw [← list_len, enc_list hr, List.length_append, hp] at hc
    have h2 := rd_cut (fds (M.i 0)) M (fun f hf => fds_fit hf) (right_oks hr) (zeroM (M.i 0)) s (put (u64 (M.i 0))) (c - 1) (by omega) hs'
    rw [decM_ok hbig hg, k2]
    obtain ⟨p, N, e, h3⟩ : ∃ p N e, rdL s (fds (M.i 0)) (put (u64 (M.i 0))).length (zeroM (M.i 0)) = (p, N, e) := ⟨_, _, _, rfl⟩
    rw [h3] at h2 ⊢
    obtain rfl : e = 2 := h2
    rfl
theorem cells_nodup (k : Int) : ((fds k).map Fd.cellOf).Nodup ∧ 0 ∉ (fds k).map Fd.cellOf := by
  rcases fds_cases k with e | e | e | e | ⟨_, _, _, _, e⟩
  · rw [e]; decide
  · rw [e]; decide
  · rw [e]; decide
  · rw [e]; decide
  · rw [e]; simp
theorem decEnd_ok {s : ByteArray} {t : Nat × Ms × Nat} {M : Ms} (h : decEnd s t = (M, 0)) : t.2.2 = 0 ∧ t.2.1 = M ∧ s.size ≤ t.1 ∧ rightM M = true := by
  obtain ⟨p, N, e⟩ := t
  cases e with
  | zero =>
    simp only [decEnd] at h
    by_cases hb : (decide (p < s.size) || !rightM N) = true
    · rw [if_pos hb] at h
      simp only [Prod.mk.injEq] at h
      exact absurd h.2 (by decide)
    · rw [if_neg hb] at h
      simp only [Prod.mk.injEq, and_true] at h
      subst h
      simp at hb
      exact ⟨rfl, rfl, hb.1, hb.2⟩
  | succ n =>
    simp only [decEnd, Prod.mk.injEq] at h
    exact absurd h.2 (by omega)
theorem wrap_small {n : Nat} (hn : (n : Int) ≤ 18446744073709551615) (h1 : 1 ≤ IntKind.i64.wrap (n : Int)) (h2 : IntKind.i64.wrap (n : Int) ≤ 4) : IntKind.i64.wrap (n : Int) = n := by
  have e1 : (n : Int) % 2 ^ 64 = n := by omega
  simp only [IntKind.wrap, IntKind.bits, IntKind.signed, e1] at h1 h2 ⊢
  by_cases hx : (n : Int) < 9223372036854775808
  · rw [if_neg (by simp; omega)]
  · rw [if_pos (by simp; omega)] at h1
    omega
theorem dec_back {s : ByteArray} {M : Ms} (h : decM s = (M, 0)) : rightM M = true ∧ encM M = s := by
  unfold decM at h
  by_cases hs : 4096 < s.size
  · rw [if_pos hs] at h
    simp only [Prod.mk.injEq] at h
    exact absurd h.2 (by decide)
  rw [if_neg hs] at h
  obtain ⟨n, p, e, hg⟩ : ∃ n p e, getA s.data.toList 0 = (n, p, e) := ⟨_, _, _, rfl⟩
  rw [hg] at h
  cases e with
  | succ k =>
    simp only [Prod.mk.injEq] at h
    exact absurd h.2 (by omega)
  | zero =>
    replace h : decEnd s (rdL s (fds (IntKind.i64.wrap n)) p (zeroM (IntKind.i64.wrap n))) = (M, 0) := h
    obtain ⟨h1, h2, h3, h4⟩ := decEnd_ok h
    obtain ⟨p', N', e', hr⟩ : ∃ x N e, rdL s (fds (IntKind.i64.wrap n)) p (zeroM (IntKind.i64.wrap n)) = (x, N, e) := ⟨_, _, _, rfl⟩
    rw [hr] at h1 h2 h3
    dsimp only at h1 h2 h3
    subst h1 h2
    have hnn : (n : Int) ≤ 18446744073709551615 := by have := (getA_bounds s 0 hg).1; omega
    obtain ⟨a0, b0, c0⟩ := get_back (L := s.data.toList) (p := 0) (Nat.zero_le _) hg
    obtain ⟨a, b, c, d⟩ := rd_back _ (cells_nodup _).1 s p _ p' N' (by rw [list_len] at b0; exact b0) hr
    have hk : N'.i 0 = IntKind.i64.wrap n := (d 0 (cells_nodup _).2).1.symm
    obtain ⟨k1, k2, k3, k4⟩ := kind_facts h4
    rw [hk] at k1 k3 k4
    have hw : IntKind.i64.wrap (n : Int) = n := wrap_small hnn (by omega) (by omega)
    have hu : u64 (N'.i 0) = n := by rw [hk]; omega
    refine ⟨h4, list_ext ?_⟩
    rw [enc_list h4, hu, hk]
    rw [List.drop_zero] at c0
    rw [c0, c, List.drop_of_length_le (by rw [list_len]; omega), List.append_nil]
theorem dec_zero {s : ByteArray} {M : Ms} {E : Nat} (h : decM s = (M, E)) (hE : E ≠ 0) : M = zeroM 0 := by
  have key : ∀ t : Nat × Ms × Nat, decEnd s t = (M, E) → M = zeroM 0 := by
    rintro ⟨p, N, e⟩ h
    cases e with
    | zero =>
      simp only [decEnd] at h
      by_cases hb : (decide (p < s.size) || !rightM N) = true
      · rw [if_pos hb] at h; simp only [Prod.mk.injEq] at h; exact h.1.symm
      · rw [if_neg hb] at h; simp only [Prod.mk.injEq] at h; exact absurd h.2.symm hE
    | succ n => simp only [decEnd, Prod.mk.injEq] at h; exact h.1.symm
  unfold decM at h
  by_cases hs : 4096 < s.size
  · rw [if_pos hs] at h; simp only [Prod.mk.injEq] at h; exact h.1.symm
  rw [if_neg hs] at h
  obtain ⟨n, p, e, hg⟩ : ∃ n p e, getA s.data.toList 0 = (n, p, e) := ⟨_, _, _, rfl⟩
  rw [hg] at h
  cases e with
  | succ k => simp only [Prod.mk.injEq] at h; exact h.1.symm
  | zero => exact key _ h
/-- Of two messages that aren't the same, neither's bytes begin the other one's. -/
theorem apart {A B : Ms} (hA : Norm A) (hB : Norm B) (ha : rightM A = true) (hb : rightM B = true) (h : A ≠ B) (hl : (encM A).size ≤ (encM B).size) : (encM B).extract 0 (encM A).size ≠ encM A := by
  intro e
  have e1 : (encM A).data.toList = (encM B).data.toList.take (encM A).size := by
    have := congrArg (fun x : ByteArray => x.data.toList) e
    simp at this
    exact this.symm
  have hd := dec_enc hA ha
  by_cases hq : (encM A).size < (encM B).size
  · have := dec_cut hb (encM A) _ hq e1
    rw [hd] at this
    simp only [Prod.mk.injEq] at this
    exact absurd this.2 (by decide)
  · have e2 : encM A = encM B := list_ext (by rw [e1, List.take_of_length_le (by rw [list_len]; omega)])
    rw [e2, dec_enc hB hb] at hd
    simp only [Prod.mk.injEq, and_true] at hd
    exact h hd.symm
theorem enc_ne {A B : Ms} (hA : Norm A) (hB : Norm B) (ha : rightM A = true) (hb : rightM B = true) (h : A ≠ B) : encM A ≠ encM B := by
  intro e
  refine apart hA hB ha hb h (by rw [e]; exact Nat.le_refl _) ?_
  rw [← e]; simp
theorem enc_empty (M : Ms) : ((encM M).toList == ByteArray.empty.toList) = !rightM M := by
  cases h : rightM M with
  | false => rw [enc_no h]; simp
  | true =>
    have h1 := (enc_len h).1
    simp only [Bool.not_true, beq_eq_false_iff_ne, ne_eq, toList_iff]
    intro e
    rw [e] at h1
    exact absurd h1 (by decide)
end Go.Proofs.Ytifpahjlmnimnaa
