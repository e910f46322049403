/- Offers in plain words: sets of versions, falling texts, what two offers have. -/
import Derived.Test.YtifpahjlmnimnaaProg
import Derived.Lib.Hide
namespace Go.Proofs.Ytifpahjlmnimnaa
set_option linter.unusedVariables false
set_option linter.unusedSimpArgs false

/-- A set's versions above 255 - k, falling. -/
def fallTo (V : Nat → Bool) : Nat → List UInt8
  | 0 => []
  | k + 1 => fallTo V k ++ if V (255 - k) = true then [UInt8.ofNat (255 - k)] else []
/-- A set's versions, falling. -/
def fall (V : Nat → Bool) : List UInt8 := fallTo V 255
/-- Is a number one of a text's bytes? -/
def inB (l : List UInt8) (j : Nat) : Bool := l.any fun c => c.toNat == j
def Falls (l : List UInt8) : Prop := l.Pairwise fun a b => b.toNat < a.toNat
/-- Is a text an offer? -/
def rightB (l : List UInt8) : Bool := decide (1 ≤ l.length) && decide (l.length ≤ 8) && (l == fall (inB l))

theorem inB_iff {l : List UInt8} {j : Nat} : inB l j = true ↔ ∃ c, c ∈ l ∧ c.toNat = j := by simp [inB]
theorem inB_self {l : List UInt8} {c : UInt8} : inB l c.toNat = true ↔ c ∈ l := by
  rw [inB_iff]
  constructor
  · rintro ⟨d, h, e⟩; rw [← UInt8.toNat_inj.1 e]; exact h
  · exact fun h => ⟨c, h, rfl⟩
theorem inB_nil (j : Nat) : inB [] j = false := rfl
theorem inB_snoc (l : List UInt8) (c : UInt8) (j : Nat) : inB (l ++ [c]) j = (inB l j || c.toNat == j) := by simp [inB]
theorem inB_big {l : List UInt8} {j : Nat} (h : 256 ≤ j) : inB l j = false := by
  rw [Bool.eq_false_iff]; intro hh
  obtain ⟨c, _, e⟩ := inB_iff.1 hh
  have := UInt8.toNat_lt c; omega

theorem toNat_ofNat {n : Nat} (h : n < 256) : (UInt8.ofNat n).toNat = n := by simp; omega
theorem mem_fallTo (V : Nat → Bool) (c : UInt8) : ∀ k, k ≤ 255 → (c ∈ fallTo V k ↔ V c.toNat = true ∧ 255 < c.toNat + k) := by
  intro k
  have hc := UInt8.toNat_lt c
  induction k with
  | zero => intro _; simp [fallTo]; omega
  | succ k ih =>
    intro hk
    rw [fallTo, List.mem_append, ih (by omega)]
    have e : (UInt8.ofNat (255 - k)).toNat = 255 - k := toNat_ofNat (by omega)
    constructor
    · rintro (⟨h1, h2⟩ | h)
      · exact ⟨h1, by omega⟩
      · split at h
        · rename_i hv
          rw [List.mem_singleton] at h
          rw [h, e]; exact ⟨hv, by omega⟩
        · simp at h
    · rintro ⟨h1, h2⟩
      rcases (by omega : 255 < c.toNat + k ∨ c.toNat = 255 - k) with q | q
      · exact .inl ⟨h1, q⟩
      · refine .inr ?_
        rw [if_pos (by rw [← q]; exact h1), List.mem_singleton, ← UInt8.toNat_inj, e, q]
theorem mem_fall {V : Nat → Bool} {c : UInt8} : c ∈ fall V ↔ V c.toNat = true ∧ 1 ≤ c.toNat := by
  rw [fall, mem_fallTo V c 255 (Nat.le_refl _)]
  constructor
  · exact fun h => ⟨h.1, by omega⟩
  · exact fun h => ⟨h.1, by omega⟩
theorem fallTo_len (V : Nat → Bool) : ∀ k, (fallTo V k).length ≤ k := by
  intro k
  induction k with
  | zero => simp [fallTo]
  | succ k ih => rw [fallTo, List.length_append]; split <;> simp <;> omega
theorem fall_len (V : Nat → Bool) : (fall V).length ≤ 255 := fallTo_len V 255
theorem fallTo_falls (V : Nat → Bool) : ∀ k, k ≤ 255 → Falls (fallTo V k) := by
  intro k
  induction k with
  | zero => intro _; simp [fallTo, Falls]
  | succ k ih =>
    intro hk
    rw [fallTo, Falls, List.pairwise_append]
    refine ⟨ih (by omega), by split <;> simp, fun a ha b hb => ?_⟩
    split at hb
    · rw [List.mem_singleton] at hb
      rw [hb, toNat_ofNat (by omega)]
      have := ((mem_fallTo V a k (by omega)).1 ha).2
      omega
    · simp at hb
theorem fall_falls (V : Nat → Bool) : Falls (fall V) := fallTo_falls V 255 (Nat.le_refl _)
theorem falls_ext : ∀ {l m : List UInt8}, Falls l → Falls m → (∀ c, c ∈ l ↔ c ∈ m) → l = m
  | [], [], _, _, _ => rfl
  | [], b :: m, _, _, h => by have := (h b).2 (by simp); simp at this
  | a :: l, [], _, _, h => by have := (h a).1 (by simp); simp at this
  | a :: l, b :: m, h1, h2, h => by
    rw [Falls, List.pairwise_cons] at h1 h2
    have e : a = b := by
      rcases List.mem_cons.1 ((h a).1 (by simp)) with q | q
      · exact q
      · rcases List.mem_cons.1 ((h b).2 (by simp)) with r | r
        · exact r.symm
        · have := h2.1 a q; have := h1.1 b r; omega
    subst e
    congr 1
    refine falls_ext h1.2 h2.2 fun c => ⟨fun hc => ?_, fun hc => ?_⟩
    · rcases List.mem_cons.1 ((h c).1 (List.mem_cons_of_mem _ hc)) with q | q
      · have := h1.1 c hc; rw [q] at this; omega
      · exact q
    · rcases List.mem_cons.1 ((h c).2 (List.mem_cons_of_mem _ hc)) with q | q
      · have := h2.1 c hc; rw [q] at this; omega
      · exact q
theorem fall_congr {V W : Nat → Bool} (h : ∀ j, 1 ≤ j → j < 256 → V j = W j) : fall V = fall W := by
  refine falls_ext (fall_falls V) (fall_falls W) fun c => ?_
  rw [mem_fall, mem_fall]
  have hc := UInt8.toNat_lt c
  constructor
  · rintro ⟨a, b⟩; rw [h _ b hc] at a; exact ⟨a, b⟩
  · rintro ⟨a, b⟩; rw [← h _ b hc] at a; exact ⟨a, b⟩
theorem inB_fall {V : Nat → Bool} {j : Nat} (h1 : 1 ≤ j) (h2 : j < 256) : inB (fall V) j = V j := by
  rw [Bool.eq_iff_iff]
  have e : (UInt8.ofNat j).toNat = j := toNat_ofNat h2
  have := inB_self (l := fall V) (c := UInt8.ofNat j)
  rw [e] at this
  rw [this, mem_fall, e]
  exact ⟨fun q => q.1, fun q => ⟨q, h1⟩⟩
theorem inB_fall0 (V : Nat → Bool) : inB (fall V) 0 = false := by
  rw [Bool.eq_false_iff]; intro hh
  obtain ⟨c, h, e⟩ := inB_iff.1 hh
  have := (mem_fall.1 h).2; omega
theorem fall_inB {l : List UInt8} (h : Falls l) (h0 : ∀ c, c ∈ l → 1 ≤ c.toNat) : fall (inB l) = l := by
  refine falls_ext (fall_falls _) h fun c => ?_
  rw [mem_fall, inB_self]
  exact ⟨fun q => q.1, fun q => ⟨q, h0 c q⟩⟩
theorem right_iff {l : List UInt8} : rightB l = true ↔ 1 ≤ l.length ∧ l.length ≤ 8 ∧ Falls l ∧ ∀ c, c ∈ l → 1 ≤ c.toNat := by
  simp only [rightB, Bool.and_eq_true, decide_eq_true_eq, beq_iff_eq]
  constructor
  · rintro ⟨⟨a, b⟩, c⟩
    refine ⟨a, b, ?_, fun x hx => ?_⟩
    · rw [c]; exact fall_falls _
    · rw [c] at hx; exact (mem_fall.1 hx).2
  · rintro ⟨a, b, c, d⟩
    exact ⟨⟨a, b⟩, (fall_inB c d).symm⟩
theorem right_fall (V : Nat → Bool) : rightB (fall V) = (decide (1 ≤ (fall V).length) && decide ((fall V).length ≤ 8)) := by
  rw [Bool.eq_iff_iff, right_iff]
  simp only [Bool.and_eq_true, decide_eq_true_eq]
  exact ⟨fun h => ⟨h.1, h.2.1⟩, fun h => ⟨h.1, h.2, fall_falls V, fun c hc => (mem_fall.1 hc).2⟩⟩
theorem right_nil : rightB [] = false := rfl

/-- What Make tells. -/
def okV (l : List Int) : Bool := l.all fun x => decide (1 ≤ x) && decide (x ≤ 255)
def vers (l : List Int) (j : Nat) : Bool := l.contains (j : Int)
def makeB (l : List Int) : Bool := okV l && rightB (fall (vers l))
def makeS (l : List Int) : List UInt8 := if makeB l = true then fall (vers l) else []
def makeE (l : List Int) : Int := if makeB l = true then 0 else 1
/-- What Both and Best tell. -/
def capB (a b : List UInt8) (j : Nat) : Bool := inB a j && inB b j
def formB (a b : List UInt8) : Bool := rightB a && rightB b
def bothS (a b : List UInt8) : List UInt8 := if formB a b = true then fall (capB a b) else []
def bestV (a b : List UInt8) : Int := match bothS a b with | [] => 0 | c :: _ => (c.toNat : Int)
def bestE (a b : List UInt8) : Int := if formB a b = true then (match bothS a b with | [] => 11 | _ :: _ => 0) else 3

theorem vers_iff {l : List Int} {j : Nat} : vers l j = true ↔ (j : Int) ∈ l := by simp [vers]
theorem vers_nil : vers [] = fun _ => false := rfl
theorem vers_snoc (l : List Int) (x : Int) (j : Nat) : vers (l ++ [x]) j = (vers l j || decide ((j : Int) = x)) := by
  rw [Bool.eq_iff_iff, vers_iff]
  simp only [List.mem_append, List.mem_singleton, Bool.or_eq_true, decide_eq_true_eq, vers_iff]
theorem okV_iff {l : List Int} : okV l = true ↔ ∀ x, x ∈ l → 1 ≤ x ∧ x ≤ 255 := by simp [okV]
theorem okV_snoc (l : List Int) (x : Int) : okV (l ++ [x]) = (okV l && (decide (1 ≤ x) && decide (x ≤ 255))) := by simp [okV]
theorem makeB_bad {l : List Int} (h : okV l = false) : makeB l = false := by simp [makeB, h]
end Go.Proofs.Ytifpahjlmnimnaa
