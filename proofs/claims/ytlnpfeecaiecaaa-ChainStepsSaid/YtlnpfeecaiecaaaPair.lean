/- Two stores beside each other, each in blocks of its own, and other blocks that neither turns: the calls on one leave the other's and these alone. -/
import Derived.Test.YtlnpfeecaiecaaaDown
namespace Go.Proofs.Ytlnpfeecaiecaaa
open Go.RowKit
set_option linter.unusedVariables false
set_option maxRecDepth 20000

/-- A store that lies in the blocks of F, all of them the call's own. -/
structure Good (base : Nat) (Q : (Nat → Prop) → List Tm → World → Prop) : Prop where
  frame : ∀ {F S : Nat → Prop} {L : List Tm} {w w' : World}, Q F L w → Chg S w w' → (∀ k, F k → ¬ S k) → Q F L w'
  bounds : ∀ {F : Nat → Prop} {L : List Tm} {w : World}, Q F L w → ∀ k, F k → base ≤ k ∧ k < w.heap.size
def NoS : (Nat → Prop) → List Tm → World → Prop := fun F _ _ => ∀ k, ¬ F k
theorem NoS.good (base : Nat) : Good base NoS := ⟨fun h _ _ => h, fun h k hk => absurd hk (h k)⟩
def PSq (base g : Nat) (most : Int) : (Nat → Prop) → List Tm → World → Prop := fun F L w => PS base g F L most w
theorem PSq.good (base g : Nat) (most : Int) : Good base (PSq base g most) := ⟨fun h hc hn => PS.chg h hc hn, fun h => PS.bounds h⟩
/-- The document's store. -/
def RSq (base g : Nat) (most : Int) : (Nat → Prop) → List Tm → World → Prop := fun F L w =>
  ∃ sv, RS base g sv L most w ∧ F g ∧ (∀ k, sv.ownBlock = some k → F k) ∧ (∀ k, F k → base ≤ k ∧ k < w.heap.size) ∧ most ≤ 1048576 ∧ Fit L ∧ (L.length : Int) ≤ most
theorem RSq.good (base g : Nat) (most : Int) : Good base (RSq base g most) := by
  refine ⟨?_, ?_⟩
  · rintro F S L w w' ⟨sv, ⟨r1, r2, r3, r4, r5⟩, h2, h3, h4, h5⟩ hc hn
    exact ⟨sv, ⟨hc.blk r1 (hn g h2), hc.row r2 (fun k hk => hn k (h3 k hk)), r3, r4, r5⟩, h2, h3, fun k hk => ⟨(h4 k hk).1, Nat.lt_of_lt_of_le (h4 k hk).2 hc.size⟩, h5⟩
  · rintro F L w ⟨sv, h1, h2, h3, h4, h5⟩
    exact h4

/-- What a call on a store leaves. -/
def Step (Q : (Nat → Prop) → List Tm → World → Prop) (F : Nat → Prop) (v : Value) (L' : List Tm) (w : World) (e : Ending) (w' : World) : Prop :=
  e = .returned v ∧ Q (fun k => F k ∨ (w.heap.size ≤ k ∧ k < w'.heap.size)) L' w' ∧ Chg F w w'

theorem fit_putF {L : List Tm} {most : Int} {t : Tm} (h : Fit L) (hl : (L.length : Int) ≤ most) : Fit (putF L most t).2.2 ∧ ((putF L most t).2.2.length : Int) ≤ most := by
  unfold putF
  split
  · rename_i hm
    split
    · exact ⟨h, hl⟩
    · split
      · exact ⟨h, hl⟩
      · refine ⟨fit_snoc h ?_, by simp; omega⟩
        have := (mayP_iff L.length t).2 (of_decide_eq_true hm)
        exact this.2.2.2.2.2
  · exact ⟨h, hl⟩

theorem putP_step {base g : Nat} {most : Int} {F : Nat → Prop} {L : List Tm} (t : Tm) (w : World) (h : PSq base g most F L w) (ht : Wf t) :
    Calls Try.prog 22 #[.pointer (some ⟨g, 0, none⟩), t.v] w (Step (PSq base g most) F (.tuple #[.int .i64 (putF L most t).1, .int .i64 (putF L most t).2.1]) (putF L most t).2.2 w) :=
  (put_p t w h ht).mono fun e w' h => h
theorem putR_step {base g : Nat} {most : Int} {F : Nat → Prop} {L : List Tm} (t : Tm) (w : World) (h : RSq base g most F L w) (ht : Wf t) (hb : base ≤ w.heap.size) :
    Calls Try.prog 27 #[.pointer (some ⟨g, 0, none⟩), t.v] w (Step (RSq base g most) F (.tuple #[.int .i64 (putF L most t).1, .int .i64 (putF L most t).2.1]) (putF L most t).2.2 w) := by
  obtain ⟨sv, h1, h2, h3, h4, h5, h6, h7⟩ := h
  refine (put_any base g sv L most t w h1 ht.1 h5 hb).mono ?_
  rintro e w' ⟨sv', name, err, L', rfl, p1, p2, p3, p4⟩
  have hp := putF_of p1
  obtain ⟨q1, q2⟩ := fit_putF (t := t) h6 h7
  rw [hp] at q1 q2 ⊢
  have hC : Chg F w w' := p3.mono (fun k _ q => by
    rcases q with q | q
    · rw [q]; exact h2
    · exact h3 k q.symm)
  refine ⟨rfl, ⟨sv', p2, .inl h2, ?_, ?_, h5, q1, q2⟩, hC⟩
  · intro k hk
    rcases p4 with q | ⟨j, q, hj⟩
    · exact .inl (h3 k (by rw [← q]; exact hk))
    · have hl := (p2.2.1.lt k hk).2
      rw [q] at hk; injection hk with hk
      exact .inr ⟨by omega, hl⟩
  · intro k hk
    rcases hk with q | q
    · exact ⟨(h4 k q).1, Nat.lt_of_lt_of_le (h4 k q).2 hC.size⟩
    · exact ⟨by omega, q.2⟩

/-- Two stores, and blocks that are neither's. -/
def Pair (base : Nat) (Q1 Q2 : (Nat → Prop) → List Tm → World → Prop) (L1 L2 : List Tm) (K : Nat → Prop) (w0 w : World) : Prop :=
  ∃ F1 F2, Q1 F1 L1 w ∧ Q2 F2 L2 w ∧ (∀ k, F1 k → ¬ F2 k) ∧ (∀ k, K k → ¬ F1 k ∧ ¬ F2 k ∧ k < w.heap.size) ∧ base = w0.heap.size ∧ Below base w0 w
section
variable {base : Nat} {Q1 Q2 : (Nat → Prop) → List Tm → World → Prop} {L1 L2 : List Tm} {K : Nat → Prop} {w0 w : World}
theorem Pair.belowW (h : Pair base Q1 Q2 L1 L2 K w0 w) : Below w0.heap.size w0 w := by
  obtain ⟨F1, F2, h1, h2, h3, h4, h5, h6⟩ := h
  rw [← h5]; exact h6
theorem Pair.base_le (h : Pair base Q1 Q2 L1 L2 K w0 w) : base ≤ w.heap.size := by
  obtain ⟨F1, F2, h1, h2, h3, h4, h5, h6⟩ := h
  rw [h5]; exact h6.size
theorem Pair.swap (h : Pair base Q1 Q2 L1 L2 K w0 w) : Pair base Q2 Q1 L2 L1 K w0 w := by
  obtain ⟨F1, F2, h1, h2, h3, h4, h5, h6⟩ := h
  exact ⟨F2, F1, h2, h1, fun k a b => h3 k b a, fun k hk => ⟨(h4 k hk).2.1, (h4 k hk).1, (h4 k hk).2.2⟩, h5, h6⟩
theorem Pair.below (g1 : Good base Q1) (g2 : Good base Q2) (h : Pair base Q1 Q2 L1 L2 K w0 w) {w' : World} (hb : Below w.heap.size w w') : Pair base Q1 Q2 L1 L2 K w0 w' := by
  have hbl := h.base_le
  obtain ⟨F1, F2, h1, h2, h3, h4, h5, h6⟩ := h
  exact ⟨F1, F2, g1.frame h1 (S := fun _ => False) (.of_below hb) (fun _ _ q => q), g2.frame h2 (S := fun _ => False) (.of_below hb) (fun _ _ q => q), h3,
    fun k hk => ⟨(h4 k hk).1, (h4 k hk).2.1, Nat.lt_of_lt_of_le (h4 k hk).2.2 hb.size⟩, h5, h6.trans (hb.mono hbl)⟩
theorem Pair.less (h : Pair base Q1 Q2 L1 L2 K w0 w) {K' : Nat → Prop} (hk : ∀ k, K' k → K k) : Pair base Q1 Q2 L1 L2 K' w0 w := by
  obtain ⟨F1, F2, h1, h2, h3, h4, h5, h6⟩ := h
  exact ⟨F1, F2, h1, h2, h3, fun k q => h4 k (hk k q), h5, h6⟩
theorem Pair.box (g1 : Good base Q1) (g2 : Good base Q2) (h : Pair base Q1 Q2 L1 L2 K w0 w) (o : Obj) : Pair base Q1 Q2 L1 L2 (fun k => K k ∨ k = w.heap.size) w0 (w.alloc o) := by
  have h' := h.below g1 g2 ((Below.refl _ _).alloc (Nat.le_refl _) o)
  obtain ⟨F1, F2, h1, h2, h3, h4, h5, h6⟩ := h
  refine ⟨F1, F2, g1.frame h1 (Chg.alloc w o (fun _ => False)) (fun _ _ q => q), g2.frame h2 (Chg.alloc w o (fun _ => False)) (fun _ _ q => q), h3, ?_, h5, h'.choose_spec.choose_spec.2.2.2.2.2⟩
  intro k hk
  rcases hk with q | q
  · exact ⟨(h4 k q).1, (h4 k q).2.1, by have := (h4 k q).2.2; simp; omega⟩
  · exact ⟨fun e => by have := (g1.bounds h1 k e).2; omega, fun e => by have := (g2.bounds h2 k e).2; omega, by rw [q]; simp⟩
theorem Pair.first (g1 : Good base Q1) (g2 : Good base Q2) (h : Pair base Q1 Q2 L1 L2 K w0 w) {L1' : List Tm} {f : FuncId} {args : Array Value} {v : Value}
    (hs : ∀ F1, Q1 F1 L1 w → Calls Try.prog f args w (Step Q1 F1 v L1' w)) :
    Calls Try.prog f args w fun e w' => e = .returned v ∧ Pair base Q1 Q2 L1' L2 K w0 w' ∧ ∀ k, K k → w'.heap[k]? = w.heap[k]? := by
  have hbl := h.base_le
  obtain ⟨F1, F2, h1, h2, h3, h4, h5, h6⟩ := h
  refine (hs F1 h1).mono ?_
  rintro e w' ⟨rfl, p1, p2⟩
  refine ⟨rfl, ⟨_, F2, p1, g2.frame h2 p2 (fun k a b => h3 k b a), ?_, ?_, h5, ?_⟩, fun k hk => p2.block k (h4 k hk).2.2 (h4 k hk).1⟩
  · intro k hk q
    rcases hk with e | e
    · exact h3 k e q
    · have := (g2.bounds h2 k q).2; omega
  · intro k hk
    have hlt := (h4 k hk).2.2
    exact ⟨fun e => by
      rcases e with e | e
      · exact (h4 k hk).1 e
      · omega, (h4 k hk).2.1, Nat.lt_of_lt_of_le hlt p2.size⟩
  · exact h6.trans (p2.below (fun k hk => (g1.bounds h1 k hk).1) hbl)
end

/-- The program's Put beside another store. -/
theorem Pair.putP {base g : Nat} {most : Int} {Q2 : (Nat → Prop) → List Tm → World → Prop} {L L' L2 : List Tm} {K : Nat → Prop} {w0 w : World} {a b : Int} (g2 : Good base Q2) (h : Pair base (PSq base g most) Q2 L L2 K w0 w) (t : Tm) (ht : Wf t) (hf : putF L most t = (a, b, L')) :
    Calls Try.prog 22 #[.pointer (some ⟨g, 0, none⟩), t.v] w fun e w' => e = .returned (.tuple #[.int .i64 a, .int .i64 b]) ∧ Pair base (PSq base g most) Q2 L' L2 K w0 w' ∧ ∀ k, K k → w'.heap[k]? = w.heap[k]? :=
  h.first (PSq.good base g most) g2 (fun F1 h1 => by have := putP_step t w h1 ht; rw [hf] at this; exact this)
theorem Pair.putR {base g : Nat} {most : Int} {Q2 : (Nat → Prop) → List Tm → World → Prop} {L L' L2 : List Tm} {K : Nat → Prop} {w0 w : World} {a b : Int} (g2 : Good base Q2) (h : Pair base (RSq base g most) Q2 L L2 K w0 w) (t : Tm) (ht : Wf t) (hf : putF L most t = (a, b, L')) :
    Calls Try.prog 27 #[.pointer (some ⟨g, 0, none⟩), t.v] w fun e w' => e = .returned (.tuple #[.int .i64 a, .int .i64 b]) ∧ Pair base (RSq base g most) Q2 L' L2 K w0 w' ∧ ∀ k, K k → w'.heap[k]? = w.heap[k]? :=
  h.first (RSq.good base g most) g2 (fun F1 h1 => by have := putR_step t w h1 ht h.base_le; rw [hf] at this; exact this)
theorem Pair.getP {base g : Nat} {most : Int} {Q2 : (Nat → Prop) → List Tm → World → Prop} {L L2 : List Tm} {K : Nat → Prop} {w0 w : World} {x : Tm × Bool} (g2 : Good base Q2) (h : Pair base (PSq base g most) Q2 L L2 K w0 w) (name : Int) (hx : getT L name = x) :
    Calls Try.prog 32 #[.pointer (some ⟨g, 0, none⟩), .int .i64 name] w fun e w' => e = .returned (.tuple #[x.1.v, .bool x.2]) ∧ Pair base (PSq base g most) Q2 L L2 K w0 w' ∧ Below w.heap.size w w' := by
  have h' := h
  obtain ⟨F1, F2, h1, _⟩ := h
  refine (get_p w h1 name).mono ?_
  rintro e w' ⟨rfl, hb⟩
  rw [hx]
  exact ⟨rfl, h'.below (PSq.good base g most) g2 hb, hb⟩
theorem Pair.depthP {base g : Nat} {most : Int} {Q2 : (Nat → Prop) → List Tm → World → Prop} {L L2 : List Tm} {K : Nat → Prop} {w0 w : World} (h : Pair base (PSq base g most) Q2 L L2 K w0 w) (name : Int) :
    Calls Try.prog 48 #[.pointer (some ⟨g, 0, none⟩), .int .i64 name] w fun e w' => e = .returned (.int .i64 (depthOf L name)) ∧ w = w' := by
  obtain ⟨F1, F2, h1, _⟩ := h
  exact depth_p w h1 name
theorem Pair.lenP {base g : Nat} {most : Int} {Q2 : (Nat → Prop) → List Tm → World → Prop} {L L2 : List Tm} {K : Nat → Prop} {w0 w : World} (h : Pair base (PSq base g most) Q2 L L2 K w0 w) :
    Calls Try.prog 20 #[.pointer (some ⟨g, 0, none⟩)] w fun e w' => e = .returned (.int .i64 L.length) ∧ w = w' := by
  obtain ⟨F1, F2, h1, _⟩ := h
  exact len_p w h1
theorem Pair.facts {base g : Nat} {most : Int} {Q2 : (Nat → Prop) → List Tm → World → Prop} {L L2 : List Tm} {K : Nat → Prop} {w0 w : World} (h : Pair base (PSq base g most) Q2 L L2 K w0 w) : Fit L ∧ (L.length : Int) ≤ most ∧ most ≤ 1048576 := by
  obtain ⟨F1, F2, h1, _⟩ := h
  exact PS.fit h1
/-- In the form that a region wants that draws its order and only reads. -/
theorem drewN_below (w : World) (n : Nat) : Below w.heap.size w (w.drewN n) := ⟨rfl, rfl, rfl, Nat.le_refl _, fun _ _ => rfl⟩
theorem quiet_of {f : FuncId} {args : Array Value} {w : World} {n : Nat} {v : Value} (h : Calls Try.prog f args (w.drewN n) fun e w' => e = .returned v ∧ w.drewN n = w') : Calls Try.prog f args (w.drewN n) fun e w' => e = .returned v ∧ ∃ m, w' = w.drewN m :=
  h.mono fun e w' ⟨a, b⟩ => ⟨a, n, b.symm⟩
theorem Pair.new1 {base : Nat} {most : Int} {w0 w : World} (h0 : base = w0.heap.size) (hb : Below base w0 w) (h1 : 0 ≤ most) (h2 : most ≤ 1048576) :
    Calls Try.prog 21 #[.int .i64 most] w fun e w' => ∃ g, e = .returned (.tuple #[.pointer (some ⟨g, 0, none⟩), .int .i64 0]) ∧ Pair base (PSq base g most) NoS [] [] (fun _ => False) w0 w' := by
  have hbs : base ≤ w.heap.size := by rw [h0]; exact hb.size
  refine (newP_good base most w h1 h2 hbs).mono ?_
  rintro e w' ⟨g, rfl, hp, hb'⟩
  exact ⟨g, rfl, _, fun _ => False, hp, fun _ q => q, fun _ _ q => q, fun _ q => q.elim, h0, hb.trans (hb'.mono hbs)⟩

theorem putF_cases (L : List Tm) (most : Int) (t : Tm) :
    (putF L most t = (0, 1, L) ∧ t.may L.length = false) ∨ (∃ k, k < L.length ∧ putF L most t = ((k : Int) + 1, 0, L) ∧ L.getD k zeroT = t ∧ t.may L.length = true ∧ nameOf L t = (k : Int) + 1) ∨
    (most ≤ (L.length : Int) ∧ putF L most t = (0, 4, L) ∧ t.may L.length = true ∧ nameOf L t = 0) ∨ ((L.length : Int) < most ∧ putF L most t = ((L.length : Int) + 1, 0, L ++ [t]) ∧ t.may L.length = true ∧ nameOf L t = 0) := by
  by_cases hm : t.may L.length = true
  · rcases nameOf_cases L t with ⟨h0, h⟩ | ⟨k, hk, h1, h2, h3⟩
    · by_cases hr : most ≤ (L.length : Int)
      · exact .inr (.inr (.inl ⟨hr, by unfold putF; rw [if_pos hm, if_neg (by rw [h0]; simp), if_pos hr], hm, h0⟩))
      · exact .inr (.inr (.inr ⟨by omega, by unfold putF; rw [if_pos hm, if_neg (by rw [h0]; simp), if_neg hr], hm, h0⟩))
    · exact .inr (.inl ⟨k, hk, by unfold putF; rw [if_pos hm, if_pos (by omega), h1], h2, hm, h1⟩)
  · exact .inl ⟨by unfold putF; rw [if_neg hm], by simpa using hm⟩
end Go.Proofs.Ytlnpfeecaiecaaa
