/- Windows in plain numbers. No program is named here. -/
import Derived.Lib.Hide
namespace Go.Proofs.Ytkdjlhnddnolaaa
set_option linter.unusedVariables false
set_option linter.unusedSimpArgs false
/-- A window: the number behind the greatest one that came; which of the last 64 did. -/
structure Wn where
  next : Nat
  bits : Nat
def topN : Nat := 18446744073709551615
def hasW (w : Wn) (n : Nat) : Bool := decide (n < w.next) && (decide (w.next - 1 - n ≤ 63) && w.bits.testBit (w.next - 1 - n))
def canW (w : Wn) (n : Nat) : Bool := !decide (n = topN) && (decide (w.next ≤ n) || (decide (w.next - 1 - n ≤ 63) && !w.bits.testBit (w.next - 1 - n)))
def putW (w : Wn) (n : Nat) : Wn := if n < w.next then ⟨w.next, w.bits ||| 2 ^ (w.next - 1 - n)⟩ else ⟨n + 1, (w.bits <<< (n + 1 - w.next) ||| 1) % 2 ^ 64⟩
def takeW (w : Wn) (n : Nat) : Wn × Nat := if n = topN then (⟨0, 0⟩, 1) else if canW w n = false then (⟨0, 0⟩, 12) else (putW w n, 0)
structure Wn.Ok (w : Wn) : Prop where
  next : w.next ≤ topN
  bits : w.bits < 2 ^ 64
/-- Its digits below the number 0 are 0. -/
def Wn.Clean (w : Wn) : Prop := ∀ i, w.next ≤ i → w.bits.testBit i = false
theorem hi_digit {b i : Nat} (h : b < 2 ^ 64) (hi : 64 ≤ i) : b.testBit i = false := Nat.testBit_lt_two_pow (Nat.lt_of_lt_of_le h (Nat.pow_le_pow_right (by omega) hi))
theorem put_next (w : Wn) (n : Nat) : (putW w n).next = max w.next (n + 1) := by
  unfold putW
  split
  · simp only; omega
  · simp only; omega
/-- The digits behind a number more. -/
theorem put_digit {w : Wn} {n : Nat} (hw : w.Ok) (i : Nat) (hi : i ≤ 63) : (putW w n).bits.testBit i = if n < w.next then (decide (i = w.next - 1 - n) || w.bits.testBit i) else (decide (i = 0) || (decide (n + 1 - w.next ≤ i) && w.bits.testBit (i - (n + 1 - w.next)))) := by
  unfold putW
  split
  · simp only [Nat.testBit_or, Nat.testBit_two_pow]
    by_cases h : w.next - 1 - n = i
    · simp [h]
    · have h' : ¬ i = w.next - 1 - n := fun e => h e.symm
      simp [h, h']
  · simp only [Nat.testBit_mod_two_pow, Nat.testBit_or, Nat.testBit_shiftLeft]
    have h1 : (1 : Nat).testBit i = decide (i = 0) := by
      have := Nat.testBit_two_pow (n := 0) (m := i)
      simp only [Nat.pow_zero] at this
      rw [this]
      by_cases h : i = 0
      · simp [h]
      · have h' : ¬ 0 = i := fun e => h e.symm
        simp [h, h']
    rw [h1]
    have h2 : decide (i < 64) = true := by simp; omega
    rw [h2, Bool.true_and]
    rw [Bool.or_comm]
theorem put_ok {w : Wn} {n : Nat} (hw : w.Ok) (hn : n < topN) (hc : canW w n = true) : (putW w n).Ok := by
  constructor
  · rw [put_next]
    have := hw.next
    omega
  · unfold putW
    split
    · rename_i h
      unfold canW at hc
      simp only [Bool.and_eq_true, Bool.or_eq_true, decide_eq_true_eq] at hc
      refine Nat.or_lt_two_pow hw.bits (Nat.pow_lt_pow_right (by omega) ?_)
      rcases hc.2 with q | q
      · omega
      · omega
    · exact Nat.mod_lt _ (by decide)
/-- Which numbers came, behind one more. -/
theorem put_has {w : Wn} {n : Nat} (hw : w.Ok) (hc : canW w n = true) (x : Nat) : hasW (putW w n) x = (decide (x = n) || (hasW w x && decide (max w.next (n + 1) - 1 - x ≤ 63))) := by
  unfold hasW
  rw [put_next]
  unfold canW at hc
  simp only [Bool.and_eq_true, Bool.or_eq_true, decide_eq_true_eq, Bool.not_eq_true', decide_eq_false_iff_not] at hc
  by_cases h63 : max w.next (n + 1) - 1 - x ≤ 63
  · rw [put_digit hw _ h63]
    by_cases hlt : n < w.next
    · have e : max w.next (n + 1) = w.next := by omega
      rw [if_pos hlt, e]
      rw [e] at h63
      by_cases hx : x = n
      · subst hx; simp [hlt, h63]
      · by_cases hxn : x < w.next
        · have : ¬ w.next - 1 - x = w.next - 1 - n := by omega
          simp [hx, hxn, h63, this]
        · simp [hx, hxn]
    · have e : max w.next (n + 1) = n + 1 := by omega
      rw [if_neg hlt, e]
      rw [e] at h63
      by_cases hx : x = n
      · subst hx; simp
      · by_cases hxn : x < n + 1
        · have h1 : ¬ n + 1 - 1 - x = 0 := by omega
          by_cases hxw : x < w.next
          · have h2 : n + 1 - w.next ≤ n + 1 - 1 - x := by omega
            have h3 : n + 1 - 1 - x - (n + 1 - w.next) = w.next - 1 - x := by omega
            have h4 : w.next - 1 - x ≤ 63 := by omega
            have h5 : n - x ≤ 63 := by omega
            rw [h3, decide_eq_true h2, decide_eq_false h1, decide_eq_true hxn, decide_eq_true hxw, decide_eq_true h4, decide_eq_false hx, decide_eq_true (show n + 1 - 1 - x ≤ 63 by omega)]
            simp
          · have h2 : ¬ n + 1 - w.next ≤ n + 1 - 1 - x := by omega
            simp [hx, hxw, h1, h2]
            omega
        · have : ¬ x < w.next := by omega
          simp [hx, hxn, this]
  · have hx : ¬ x = n := by
      intro e
      subst e
      by_cases hlt : x < w.next
      · rcases hc.2 with q | q
        · omega
        · omega
      · omega
    simp [h63, hx]
theorem put_clean {w : Wn} {n : Nat} (hw : w.Ok) (hc : canW w n = true) (h : w.Clean) : (putW w n).Clean := by
  intro i hi
  rw [put_next] at hi
  by_cases h63 : i ≤ 63
  · rw [put_digit hw i h63]
    split
    · have : ¬ i = w.next - 1 - n := by omega
      simp [this, h i (by omega)]
    · have h0 : ¬ i = 0 := by omega
      simp only [h0, decide_false, Bool.false_or]
      by_cases h2 : n + 1 - w.next ≤ i
      · rw [h _ (by omega)]; simp
      · simp [h2]
  · unfold putW
    split
    · rename_i hlt
      simp only
      rw [Nat.testBit_or, hi_digit hw.bits (by omega), Nat.testBit_two_pow]
      unfold canW at hc
      simp only [Bool.and_eq_true, Bool.or_eq_true, decide_eq_true_eq] at hc
      have : ¬ w.next - 1 - n = i := by omega
      simp [this]
    · simp only
      rw [Nat.testBit_mod_two_pow]
      have : ¬ i < 64 := by omega
      simp [this]
/-- Clean windows of which the same numbers came are the same. -/
theorem win_ext {v w : Wn} (hv : v.Ok) (hw : w.Ok) (cv : v.Clean) (cw : w.Clean) (hn : v.next = w.next) (h : ∀ x, hasW v x = hasW w x) : v = w := by
  obtain ⟨n, b⟩ := v
  obtain ⟨m, c⟩ := w
  simp only at hn
  subst hn
  have : b = c := by
    apply Nat.eq_of_testBit_eq
    intro i
    by_cases hi : n ≤ i
    · have h1 := cv i hi
      have h2 := cw i hi
      simp only at h1 h2
      rw [h1, h2]
    · by_cases h63 : i ≤ 63
      · have := h (n - 1 - i)
        unfold hasW at this
        simp only at this
        have e : n - 1 - (n - 1 - i) = i := by omega
        have e2 : n - 1 - i < n := by omega
        rw [e] at this
        simpa [e2, h63] using this
      · have h1 := hi_digit hv.bits (i := i) (by omega)
        have h2 := hi_digit hw.bits (i := i) (by omega)
        simp only at h1 h2
        rw [h1, h2]
  rw [this]
theorem zero_ok : (⟨0, 0⟩ : Wn).Ok := ⟨by decide, by decide⟩
theorem zero_clean : (⟨0, 0⟩ : Wn).Clean := fun i _ => by simp
theorem can_has (w : Wn) (n : Nat) : canW w n = (!decide (n = topN) && (decide (w.next ≤ n) || (decide (w.next - 1 - n ≤ 63) && !hasW w n))) := by
  unfold canW hasW
  by_cases h1 : w.next ≤ n
  · simp [h1]
  · by_cases h2 : w.next - 1 - n ≤ 63
    · have h3 : n < w.next := by omega
      simp [h1, h2, h3]
    · simp [h1, h2]
/-- What a window is, of which these came: none, or those that are not too far below the greatest one. -/
structure Inv (L : List Nat) (w : Wn) : Prop where
  ok : w.Ok
  clean : w.Clean
  none : L = [] → w = ⟨0, 0⟩
  some_ : ∀ x, x ∈ L → x < w.next
  top : L ≠ [] → w.next - 1 ∈ L ∧ 0 < w.next
  has : ∀ x, hasW w x = true ↔ x ∈ L ∧ w.next - 1 - x ≤ 63
theorem Inv.nil : Inv [] ⟨0, 0⟩ := ⟨zero_ok, zero_clean, fun _ => rfl, fun x hx => by simp at hx, fun h => absurd rfl h, fun x => by simp [hasW]⟩
/-- May a number come? -/
theorem Inv.can {L : List Nat} {w : Wn} (h : Inv L w) {n : Nat} (hn : n < topN) : canW w n = true ↔ n ∉ L ∧ ¬ (L ≠ [] ∧ n + 63 < w.next - 1) := by
  rw [can_has]
  have h1 : decide (n = topN) = false := by simp; omega
  rw [h1]
  simp only [Bool.not_false, Bool.true_and, Bool.or_eq_true, Bool.and_eq_true, decide_eq_true_eq, Bool.not_eq_true']
  have hb := h.has n
  constructor
  · rintro (q | ⟨q1, q2⟩)
    · refine ⟨fun hm => ?_, fun hq => ?_⟩
      · have := h.some_ n hm; omega
      · omega
    · refine ⟨fun hm => ?_, fun hq => ?_⟩
      · rw [hb.2 ⟨hm, q1⟩] at q2; cases q2
      · omega
  · rintro ⟨hm, hq⟩
    by_cases hL : L = []
    · left
      rw [h.none hL]
      exact Nat.zero_le _
    · by_cases hw : w.next ≤ n
      · exact .inl hw
      · right
        have h63 : w.next - 1 - n ≤ 63 := by
          rcases Nat.lt_or_ge (n + 63) (w.next - 1) with a | a
          · exact absurd ⟨hL, a⟩ hq
          · omega
        refine ⟨h63, ?_⟩
        cases hc : hasW w n with
        | false => rfl
        | true => exact absurd (hb.1 hc).1 hm
/-- With one more. -/
theorem Inv.put {L : List Nat} {w : Wn} (h : Inv L w) {n : Nat} (hn : n < topN) (hc : canW w n = true) : Inv (n :: L) (putW w n) := by
  refine ⟨put_ok h.ok hn hc, put_clean h.ok hc h.clean, fun e => (by cases e), fun x hx => ?_, fun _ => ?_, fun x => ?_⟩
  · rw [put_next]
    rcases List.mem_cons.1 hx with e | e
    · omega
    · have := h.some_ x e; omega
  · rw [put_next]
    refine ⟨?_, by omega⟩
    by_cases hlt : n < w.next
    · have e : max w.next (n + 1) = w.next := by omega
      rw [e]
      by_cases hL : L = []
      · rw [h.none hL] at hlt; exact absurd hlt (Nat.not_lt_zero _)
      · exact List.mem_cons_of_mem _ (h.top hL).1
    · have e : max w.next (n + 1) = n + 1 := by omega
      rw [e]
      simp
  · rw [put_has h.ok hc x, put_next]
    simp only [Bool.or_eq_true, Bool.and_eq_true, decide_eq_true_eq, List.mem_cons]
    constructor
    · rintro (e | ⟨e1, e2⟩)
      · refine ⟨.inl e, ?_⟩
        subst e
        have hcc := hc
        unfold canW at hcc
        simp only [Bool.and_eq_true, Bool.or_eq_true, decide_eq_true_eq] at hcc
        rcases hcc.2 with q | q
        · omega
        · omega
      · exact ⟨.inr ((h.has x).1 e1).1, e2⟩
    · rintro ⟨e | e, e2⟩
      · exact .inl e
      · refine .inr ⟨(h.has x).2 ⟨e, ?_⟩, e2⟩
        omega
/-- Windows of which the same numbers came, with the same one ahead, are the same. -/
theorem Inv.same {L M : List Nat} {v w : Wn} (h : Inv L v) (k : Inv M w) (hm : ∀ x, x ∈ L ↔ x ∈ M) : v = w := by
  by_cases hL : L = []
  · have hM : M = [] := by
      cases M with
      | nil => rfl
      | cons a r => exact absurd ((hm a).2 (by simp)) (by rw [hL]; simp)
    rw [h.none hL, k.none hM]
  · have hM : M ≠ [] := fun e => by
      cases L with
      | nil => exact hL rfl
      | cons a r =>
        have := (hm a).1 (by simp)
        rw [e] at this
        simp at this
    have a1 := h.some_ _ ((hm _).2 (k.top hM).1)
    have a2 := k.some_ _ ((hm _).1 (h.top hL).1)
    have b1 := (h.top hL).2
    have b2 := (k.top hM).2
    have e : v.next = w.next := by omega
    refine win_ext h.ok k.ok h.clean k.clean e (fun x => ?_)
    have c1 := h.has x
    have c2 := k.has x
    rw [← e, ← hm x] at c2
    cases hv : hasW v x with
    | true => exact (c2.2 (c1.1 hv)).symm
    | false =>
      cases hw : hasW w x with
      | false => rfl
      | true => rw [c1.2 (c2.1 hw)] at hv; cases hv
/-! ### The document's digits -/
theorem doc_digit {w : Wn} {n : Nat} (hw : w.Ok) (hc : canW w n = true) (hcl : w.Clean) {N i : Nat} (hN : max w.next (n + 1) = N) (hi : i ≤ 63) :
    (putW w n).bits.testBit i = (decide (i < N) && (decide (N - 1 - i = n) || hasW w (N - 1 - i))) := by
  by_cases h : i < N
  · have h1 := put_has hw hc (N - 1 - i)
    unfold hasW at h1
    rw [put_next, hN] at h1
    have e : N - 1 - (N - 1 - i) = i := by omega
    rw [e, decide_eq_true (show N - 1 - i < N by omega), decide_eq_true hi] at h1
    simp only [Bool.true_and, Bool.and_true] at h1
    rw [h1, decide_eq_true h]
    unfold hasW
    simp only [Bool.true_and]
  · have h1 := put_clean hw hc hcl i (by rw [put_next, hN]; omega)
    rw [h1, decide_eq_false h]
    rfl
theorem half_digit (t i : Nat) : t / 2 ^ i = t / 2 ^ (i + 1) * 2 + (if t.testBit i = true then 1 else 0) := by
  have h1 : t / 2 ^ (i + 1) = t / 2 ^ i / 2 := by rw [Nat.pow_succ, Nat.div_div_eq_div_mul]
  have h2 : t.testBit i = decide (t / 2 ^ i % 2 = 1) := Nat.testBit_eq_decide_div_mod_eq
  rw [h1, h2]
  by_cases h : t / 2 ^ i % 2 = 1
  · simp [h]; omega
  · simp [h]; omega
theorem half_le {t : Nat} (h : t < 2 ^ 64) (i : Nat) : t / 2 ^ (i + 1) * 2 < 2 ^ 64 := by
  have := half_digit t i
  have h1 : t / 2 ^ i ≤ t := Nat.div_le_self _ _
  omega
theorem half_top {t : Nat} (h : t < 2 ^ 64) : t / 2 ^ 64 = 0 := Nat.div_eq_of_lt h
/-! ### A number far ahead -/
theorem put_far {w : Wn} {n : Nat} (hw : w.Ok) (h : w.next + 63 ≤ n) : putW w n = ⟨n + 1, 1⟩ := by
  have h1 : (putW w n).next = n + 1 := by rw [put_next]; omega
  have h2 : (putW w n).bits = 1 := by
    apply Nat.eq_of_testBit_eq
    intro i
    have h0 : (1 : Nat).testBit i = decide (i = 0) := by
      have := Nat.testBit_two_pow (n := 0) (m := i)
      simp only [Nat.pow_zero] at this
      rw [this]
      by_cases h : i = 0
      · simp [h]
      · have h' : ¬ 0 = i := fun e => h e.symm
        simp [h, h']
    rw [h0]
    by_cases h63 : i ≤ 63
    · rw [put_digit hw i h63, if_neg (by omega), decide_eq_false (show ¬ n + 1 - w.next ≤ i by omega)]
      simp
    · unfold putW
      rw [if_neg (by omega)]
      simp only [Nat.testBit_mod_two_pow]
      rw [decide_eq_false (show ¬ i < 64 by omega), decide_eq_false (show ¬ i = 0 by omega)]
      rfl
  cases h3 : putW w n with
  | mk a b =>
    rw [h3] at h1 h2
    simp only at h1 h2
    rw [h1, h2]
/-- One that is 63 above the greatest one leaves that one alone. -/
theorem put_63 {w : Wn} (hw : w.Ok) (h0 : w.bits.testBit 0 = true) : putW w (w.next + 62) = ⟨w.next + 63, 2 ^ 63 + 1⟩ := by
  have h1 : (putW w (w.next + 62)).next = w.next + 63 := by rw [put_next]; omega
  have h2 : (putW w (w.next + 62)).bits = 2 ^ 63 + 1 := by
    have hd : ∀ i, i ≤ 63 → (putW w (w.next + 62)).bits.testBit i = (decide (i = 0) || decide (i = 63)) := fun i h63 => by
      rw [put_digit hw i h63, if_neg (by omega)]
      by_cases e : i = 63
      · subst e
        have e1 : 63 - (w.next + 62 + 1 - w.next) = 0 := by omega
        rw [e1, h0, decide_eq_true (show w.next + 62 + 1 - w.next ≤ 63 by omega)]
        rfl
      · rw [decide_eq_false (show ¬ w.next + 62 + 1 - w.next ≤ i by omega), decide_eq_false e]
        simp
    have hr : ∀ i, i ≤ 63 → (2 ^ 63 + 1 : Nat).testBit i = (decide (i = 0) || decide (i = 63)) := by decide +kernel
    have hb : (putW w (w.next + 62)).bits < 2 ^ 64 := by
      unfold putW
      rw [if_neg (by omega)]
      exact Nat.mod_lt _ (by decide)
    apply Nat.eq_of_testBit_eq
    intro i
    by_cases h63 : i ≤ 63
    · rw [hd i h63, hr i h63]
    · rw [hi_digit hb (by omega), hi_digit (by decide) (by omega)]
  cases h3 : putW w (w.next + 62) with
  | mk a b =>
    rw [h3] at h1 h2
    simp only at h1 h2
    rw [h1, h2]
theorem Inv.top_digit {L : List Nat} {w : Wn} (h : Inv L w) (hL : L ≠ []) : w.bits.testBit 0 = true := by
  have h1 := h.top hL
  have h2 := (h.has (w.next - 1)).2 ⟨h1.1, by omega⟩
  unfold hasW at h2
  simp only [Nat.sub_self, Bool.and_eq_true] at h2
  exact h2.2.2
end Go.Proofs.Ytkdjlhnddnolaaa
