/- Two stores beside each other, each in blocks of its own, and other blocks that neither turns: the calls on one leave the other's and these alone. -/
/- Both stores, filled with the terms of a row. -/
/- Names in a store, in one word: what Put answers where there is room, and that names stay, tell terms apart, and are got again. -/
/- Small words that the contracts of all later layers share. -/
import Derived.Test.YtgeonppckeiceaaGreatDoorGp04
import Derived.OpenShut
namespace Go.Proofs.YtgeonppckeiceaaGreatDoor
open Go.RowKit
set_option linter.unusedVariables false
set_option maxRecDepth 20000

/-- A store that lies in the blocks of F, all of them the call's own. -/
structure Good (base : Nat) (Q : (Nat → Prop) → List Tm → World → Prop) : Prop where
  frame : ∀ {F S : Nat → Prop} {L : List Tm} {w w' : World}, Q F L w → Chg S w w' → (∀ k, F k → ¬ S k) → Q F L w'
  bounds : ∀ {F : Nat → Prop} {L : List Tm} {w : World}, Q F L w → ∀ k, F k → base ≤ k ∧ k < w.heap.size
def NoS : (Nat → Prop) → List Tm → World → Prop := fun F _ _ => ∀ k, ¬ F k
theorem NoS.good (base : Nat) : Good base NoS := ⟨fun h _ _ => h, fun h k hk => absurd hk (h k)⟩
def PSq (base g : Nat) (most : Int) : (Nat → Prop) → List Tm → World → Prop := fun F L w => PS base g F L most w
theorem PSq.good (base g : Nat) (most : Int) : Good base (PSq base g most) := ⟨fun h hc hn => PS.chg h hc hn, fun h => PS.bounds h⟩
/-- The document's store. -/
def RSq (base g : Nat) (most : Int) : (Nat → Prop) → List Tm → World → Prop := fun F L w =>
  ∃ sv, RS base g sv L most w ∧ F g ∧ (∀ k, sv.ownBlock = some k → F k) ∧ (∀ k, F k → base ≤ k ∧ k < w.heap.size) ∧ most ≤ 1048576 ∧ Fit L ∧ (L.length : Int) ≤ most
theorem RSq.good (base g : Nat) (most : Int) : Good base (RSq base g most) := by
  refine ⟨?_, ?_⟩
  · rintro F S L w w' ⟨sv, ⟨r1, r2, r3, r4, r5⟩, h2, h3, h4, h5⟩ hc hn
    exact ⟨sv, ⟨hc.blk r1 (hn g h2), hc.row r2 (fun k hk => hn k (h3 k hk)), r3, r4, r5⟩, h2, h3, fun k hk => ⟨(h4 k hk).1, Nat.lt_of_lt_of_le (h4 k hk).2 hc.size⟩, h5⟩
  · rintro F L w ⟨sv, h1, h2, h3, h4, h5⟩
    exact h4

/-- What a call on a store leaves. -/
def Step (Q : (Nat → Prop) → List Tm → World → Prop) (F : Nat → Prop) (v : Value) (L' : List Tm) (w : World) (e : Ending) (w' : World) : Prop :=
  e = .returned v ∧ Q (fun k => F k ∨ (w.heap.size ≤ k ∧ k < w'.heap.size)) L' w' ∧ Chg F w w'

theorem fit_putF {L : List Tm} {most : Int} {t : Tm} (h : Fit L) (hl : (L.length : Int) ≤ most) : Fit (putF L most t).2.2 ∧ ((putF L most t).2.2.length : Int) ≤ most := by
  unfold putF
  split
  · rename_i hm
    split
    · exact ⟨h, hl⟩
    · split
      · exact ⟨h, hl⟩
      · refine ⟨fit_snoc h ?_, by simp; omega⟩
        have := (mayP_iff L.length t).2 (of_decide_eq_true hm)
        exact this.2.2.2.2.2
  · exact ⟨h, hl⟩

theorem putP_step {base g : Nat} {most : Int} {F : Nat → Prop} {L : List Tm} (t : Tm) (w : World) (h : PSq base g most F L w) (ht : Wf t) :
    Calls Tryz.prog 42 #[.pointer (some ⟨g, 0, none⟩), t.v] w (Step (PSq base g most) F (.tuple #[.int .i64 (putF L most t).1, .int .i64 (putF L most t).2.1]) (putF L most t).2.2 w) :=
  (put_p t w h ht).mono fun e w' h => h
/-- Two stores, and blocks that are neither's. -/
def Pair (base : Nat) (Q1 Q2 : (Nat → Prop) → List Tm → World → Prop) (L1 L2 : List Tm) (K : Nat → Prop) (w0 w : World) : Prop :=
  ∃ F1 F2, Q1 F1 L1 w ∧ Q2 F2 L2 w ∧ (∀ k, F1 k → ¬ F2 k) ∧ (∀ k, K k → ¬ F1 k ∧ ¬ F2 k ∧ k < w.heap.size) ∧ base = w0.heap.size ∧ Below base w0 w
section
variable {base : Nat} {Q1 Q2 : (Nat → Prop) → List Tm → World → Prop} {L1 L2 : List Tm} {K : Nat → Prop} {w0 w : World}
theorem Pair.belowW (h : Pair base Q1 Q2 L1 L2 K w0 w) : Below w0.heap.size w0 w := by
  obtain ⟨F1, F2, h1, h2, h3, h4, h5, h6⟩ := h
  rw [← h5]; exact h6
theorem Pair.base_le (h : Pair base Q1 Q2 L1 L2 K w0 w) : base ≤ w.heap.size := by
  obtain ⟨F1, F2, h1, h2, h3, h4, h5, h6⟩ := h
  rw [h5]; exact h6.size
theorem Pair.swap (h : Pair base Q1 Q2 L1 L2 K w0 w) : Pair base Q2 Q1 L2 L1 K w0 w := by
  obtain ⟨F1, F2, h1, h2, h3, h4, h5, h6⟩ := h
  exact ⟨F2, F1, h2, h1, fun k a b => h3 k b a, fun k hk => ⟨(h4 k hk).2.1, (h4 k hk).1, (h4 k hk).2.2⟩, h5, h6⟩
theorem Pair.below (g1 : Good base Q1) (g2 : Good base Q2) (h : Pair base Q1 Q2 L1 L2 K w0 w) {w' : World} (hb : Below w.heap.size w w') : Pair base Q1 Q2 L1 L2 K w0 w' := by
  have hbl := h.base_le
  obtain ⟨F1, F2, h1, h2, h3, h4, h5, h6⟩ := h
  exact ⟨F1, F2, g1.frame h1 (S := fun _ => False) (.of_below hb) (fun _ _ q => q), g2.frame h2 (S := fun _ => False) (.of_below hb) (fun _ _ q => q), h3,
    fun k hk => ⟨(h4 k hk).1, (h4 k hk).2.1, Nat.lt_of_lt_of_le (h4 k hk).2.2 hb.size⟩, h5, h6.trans (hb.mono hbl)⟩
theorem Pair.less (h : Pair base Q1 Q2 L1 L2 K w0 w) {K' : Nat → Prop} (hk : ∀ k, K' k → K k) : Pair base Q1 Q2 L1 L2 K' w0 w := by
  obtain ⟨F1, F2, h1, h2, h3, h4, h5, h6⟩ := h
  exact ⟨F1, F2, h1, h2, h3, fun k q => h4 k (hk k q), h5, h6⟩
theorem Pair.box (g1 : Good base Q1) (g2 : Good base Q2) (h : Pair base Q1 Q2 L1 L2 K w0 w) (o : Obj) : Pair base Q1 Q2 L1 L2 (fun k => K k ∨ k = w.heap.size) w0 (w.alloc o) := by
  have h' := h.below g1 g2 ((Below.refl _ _).alloc (Nat.le_refl _) o)
  obtain ⟨F1, F2, h1, h2, h3, h4, h5, h6⟩ := h
  refine ⟨F1, F2, g1.frame h1 (Chg.alloc w o (fun _ => False)) (fun _ _ q => q), g2.frame h2 (Chg.alloc w o (fun _ => False)) (fun _ _ q => q), h3, ?_, h5, h'.choose_spec.choose_spec.2.2.2.2.2⟩
  intro k hk
  rcases hk with q | q
  · exact ⟨(h4 k q).1, (h4 k q).2.1, by have := (h4 k q).2.2; simp; omega⟩
  · exact ⟨fun e => by have := (g1.bounds h1 k e).2; omega, fun e => by have := (g2.bounds h2 k e).2; omega, by rw [q]; simp⟩
theorem Pair.first (g1 : Good base Q1) (g2 : Good base Q2) (h : Pair base Q1 Q2 L1 L2 K w0 w) {L1' : List Tm} {f : FuncId} {args : Array Value} {v : Value}
    (hs : ∀ F1, Q1 F1 L1 w → Calls Tryz.prog f args w (Step Q1 F1 v L1' w)) :
    Calls Tryz.prog f args w fun e w' => e = .returned v ∧ Pair base Q1 Q2 L1' L2 K w0 w' ∧ ∀ k, K k → w'.heap[k]? = w.heap[k]? := by
  have hbl := h.base_le
  obtain ⟨F1, F2, h1, h2, h3, h4, h5, h6⟩ := h
  refine (hs F1 h1).mono ?_
  rintro e w' ⟨rfl, p1, p2⟩
  refine ⟨rfl, ⟨_, F2, p1, g2.frame h2 p2 (fun k a b => h3 k b a), ?_, ?_, h5, ?_⟩, fun k hk => p2.block k (h4 k hk).2.2 (h4 k hk).1⟩
  · intro k hk q
    rcases hk with e | e
    · exact h3 k e q
    · have := (g2.bounds h2 k q).2; omega
  · intro k hk
    have hlt := (h4 k hk).2.2
    exact ⟨fun e => by
      rcases e with e | e
      · exact (h4 k hk).1 e
      · omega, (h4 k hk).2.1, Nat.lt_of_lt_of_le hlt p2.size⟩
  · exact h6.trans (p2.below (fun k hk => (g1.bounds h1 k hk).1) hbl)
end

/-- The program's Put beside another store. -/
theorem Pair.putP {base g : Nat} {most : Int} {Q2 : (Nat → Prop) → List Tm → World → Prop} {L L' L2 : List Tm} {K : Nat → Prop} {w0 w : World} {a b : Int} (g2 : Good base Q2) (h : Pair base (PSq base g most) Q2 L L2 K w0 w) (t : Tm) (ht : Wf t) (hf : putF L most t = (a, b, L')) :
    Calls Tryz.prog 42 #[.pointer (some ⟨g, 0, none⟩), t.v] w fun e w' => e = .returned (.tuple #[.int .i64 a, .int .i64 b]) ∧ Pair base (PSq base g most) Q2 L' L2 K w0 w' ∧ ∀ k, K k → w'.heap[k]? = w.heap[k]? :=
  h.first (PSq.good base g most) g2 (fun F1 h1 => by have := putP_step t w h1 ht; rw [hf] at this; exact this)
theorem Pair.getP {base g : Nat} {most : Int} {Q2 : (Nat → Prop) → List Tm → World → Prop} {L L2 : List Tm} {K : Nat → Prop} {w0 w : World} {x : Tm × Bool} (g2 : Good base Q2) (h : Pair base (PSq base g most) Q2 L L2 K w0 w) (name : Int) (hx : getT L name = x) :
    Calls Tryz.prog 102 #[.pointer (some ⟨g, 0, none⟩), .int .i64 name] w fun e w' => e = .returned (.tuple #[x.1.v, .bool x.2]) ∧ Pair base (PSq base g most) Q2 L L2 K w0 w' ∧ Below w.heap.size w w' := by
  have h' := h
  obtain ⟨F1, F2, h1, _⟩ := h
  refine (get_p w h1 name).mono ?_
  rintro e w' ⟨rfl, hb⟩
  rw [hx]
  exact ⟨rfl, h'.below (PSq.good base g most) g2 hb, hb⟩
theorem Pair.lenP {base g : Nat} {most : Int} {Q2 : (Nat → Prop) → List Tm → World → Prop} {L L2 : List Tm} {K : Nat → Prop} {w0 w : World} (h : Pair base (PSq base g most) Q2 L L2 K w0 w) :
    Calls Tryz.prog 36 #[.pointer (some ⟨g, 0, none⟩)] w fun e w' => e = .returned (.int .i64 L.length) ∧ w = w' := by
  obtain ⟨F1, F2, h1, _⟩ := h
  exact len_p w h1
theorem Pair.facts {base g : Nat} {most : Int} {Q2 : (Nat → Prop) → List Tm → World → Prop} {L L2 : List Tm} {K : Nat → Prop} {w0 w : World} (h : Pair base (PSq base g most) Q2 L L2 K w0 w) : Fit L ∧ (L.length : Int) ≤ most ∧ most ≤ 1048576 := by
  obtain ⟨F1, F2, h1, _⟩ := h
  exact PS.fit h1
/-- In the form that a region wants that draws its order and only reads. -/
theorem drewN_below (w : World) (n : Nat) : Below w.heap.size w (w.drewN n) := ⟨rfl, rfl, rfl, Nat.le_refl _, fun _ _ => rfl⟩
theorem putF_cases (L : List Tm) (most : Int) (t : Tm) :
    (putF L most t = (0, 1, L) ∧ t.may L.length = false) ∨ (∃ k, k < L.length ∧ putF L most t = ((k : Int) + 1, 0, L) ∧ L.getD k zeroT = t ∧ t.may L.length = true ∧ nameOf L t = (k : Int) + 1) ∨
    (most ≤ (L.length : Int) ∧ putF L most t = (0, 4, L) ∧ t.may L.length = true ∧ nameOf L t = 0) ∨ ((L.length : Int) < most ∧ putF L most t = ((L.length : Int) + 1, 0, L ++ [t]) ∧ t.may L.length = true ∧ nameOf L t = 0) := by
  by_cases hm : t.may L.length = true
  · rcases nameOf_cases L t with ⟨h0, h⟩ | ⟨k, hk, h1, h2, h3⟩
    · by_cases hr : most ≤ (L.length : Int)
      · exact .inr (.inr (.inl ⟨hr, by unfold putF; rw [if_pos hm, if_neg (by rw [h0]; simp), if_pos hr], hm, h0⟩))
      · exact .inr (.inr (.inr ⟨by omega, by unfold putF; rw [if_pos hm, if_neg (by rw [h0]; simp), if_neg hr], hm, h0⟩))
    · exact .inr (.inl ⟨k, hk, by unfold putF; rw [if_pos hm, if_pos (by omega), h1], h2, hm, h1⟩)
  · exact .inl ⟨by unfold putF; rw [if_neg hm], by simpa using hm⟩
end Go.Proofs.YtgeonppckeiceaaGreatDoor
namespace Go.Proofs.YtgeonppckeiceaaGreatDoor
open Go.RowKit
set_option linter.unusedVariables false
set_option maxRecDepth 20000

theorem may_iff (n : Nat) (t : Tm) : t.may n = true ↔ May n t.K t.S t.N t.A t.B t.C := by unfold Tm.may; simp
theorem may_mono {n m : Nat} {t : Tm} (h : n ≤ m) (k : t.may n = true) : t.may m = true := by
  rw [may_iff] at k ⊢
  unfold May at k ⊢
  obtain ⟨k1, k2, k3, k4, k5, k6, k7⟩ := k
  refine ⟨k1, k2, k3, k4, k5, fun j hj hb => k6 j hj ?_, k7⟩
  unfold BadP at hb ⊢
  omega
/-- All terms may be. -/
def Sound (L : List Tm) : Prop := ∀ k, k < L.length → (L.getD k zeroT).may L.length = true
theorem Sound.nil : Sound [] := fun k hk => absurd hk (Nat.not_lt_zero _)
theorem Sound.put {L : List Tm} (h : Sound L) (most : Int) (t : Tm) : Sound (putF L most t).2.2 := by
  rcases putF_cases L most t with ⟨hp, hm⟩ | ⟨j, hj, hp, hjt, hm, hn⟩ | ⟨hr, hp, hm, hn⟩ | ⟨hr, hp, hm, hn⟩
  all_goals rw [hp]
  · exact h
  · exact h
  · exact h
  · intro k hk
    have hk' : k < L.length + 1 := by simpa using hk
    rcases Nat.lt_succ_iff_lt_or_eq.1 hk' with q | q
    · show ((L ++ [t]).getD k zeroT).may (L ++ [t]).length = true
      rw [getD_snoc_lt L t k q]
      exact may_mono (by simp) (h k q)
    · show ((L ++ [t]).getD k zeroT).may (L ++ [t]).length = true
      rw [q, getD_snoc_eq]
      exact may_mono (by simp) hm

end Go.Proofs.YtgeonppckeiceaaGreatDoor
namespace Go.Proofs.YtgeonppckeiceaaGreatDoor
open Go.RowKit
set_option linter.unusedVariables false
set_option maxRecDepth 20000

/-- A term has that name there. -/
def Named (L : List Tm) (a : Int) (t : Tm) : Prop := nameOf L t = a ∧ 1 ≤ a
/-- The later terms: what had a name keeps it. -/
def Ext (L L' : List Tm) : Prop := L.length ≤ L'.length ∧ (∀ j, j < L.length → L'.getD j zeroT = L.getD j zeroT) ∧ ∀ u, nameOf L u ≠ 0 → nameOf L' u = nameOf L u
theorem Ext.refl (L : List Tm) : Ext L L := ⟨Nat.le_refl _, fun _ _ => rfl, fun _ _ => rfl⟩
theorem Ext.trans {L M N : List Tm} (h : Ext L M) (k : Ext M N) : Ext L N :=
  ⟨Nat.le_trans h.1 k.1, fun j hj => by rw [k.2.1 j (Nat.lt_of_lt_of_le hj h.1), h.2.1 j hj], fun u hu => by
    have := h.2.2 u hu
    rw [k.2.2 u (by rw [this]; exact hu), this]⟩
theorem Ext.snoc (L : List Tm) (t : Tm) : Ext L (L ++ [t]) := ⟨by simp, fun j hj => getD_snoc_lt L t j hj, fun u hu => nameOf_snoc_old L t u hu⟩
theorem Named.ext {L L' : List Tm} {a : Int} {t : Tm} (h : Named L a t) (k : Ext L L') : Named L' a t := ⟨by rw [k.2.2 t (by rw [h.1]; have := h.2; omega)]; exact h.1, h.2⟩
theorem Named.at {L : List Tm} {a : Int} {t : Tm} (h : Named L a t) : 1 ≤ a ∧ a ≤ (L.length : Int) ∧ L.getD (a - 1).toNat zeroT = t := by
  obtain ⟨h1, h2⟩ := h
  rcases nameOf_cases L t with ⟨h0, _⟩ | ⟨k, hk, e, ht, _⟩
  · omega
  · have : (a - 1).toNat = k := by omega
    rw [this]
    exact ⟨h2, by omega, ht⟩
theorem Named.inj {L : List Tm} {a b : Int} {t u : Tm} (h : Named L a t) (k : Named L b u) : a = b ↔ t = u := by
  constructor
  · rintro rfl
    rw [← h.at.2.2, ← k.at.2.2]
  · rintro rfl
    rw [← h.1, ← k.1]
theorem Named.get {L : List Tm} {a : Int} {t : Tm} (h : Named L a t) : getT L a = (t, true) := by
  obtain ⟨h1, h2, h3⟩ := h.at
  unfold getT
  rw [if_pos ⟨h1, h2⟩, h3]
theorem put_old {L : List Tm} {a most : Int} {t : Tm} (h : Named L a t) (hm : t.may L.length = true) : putF L most t = (a, 0, L) := by
  unfold putF
  rw [if_pos hm, if_pos (by rw [h.1]; have := h.2; omega), h.1]
theorem put_named (L : List Tm) (most : Int) (t : Tm) (hm : t.may L.length = true) (hr : (L.length : Int) < most) :
    ∃ a L', putF L most t = (a, 0, L') ∧ Named L' a t ∧ Ext L L' ∧ L'.length ≤ L.length + 1 := by
  rcases nameOf_cases L t with ⟨h0, h⟩ | ⟨k, hk, h1, h2, h3⟩
  · refine ⟨(L.length : Int) + 1, L ++ [t], ?_, ⟨nameOf_snoc_same L t h0, by omega⟩, Ext.snoc L t, by simp⟩
    unfold putF
    rw [if_pos hm, if_neg (by rw [h0]; simp), if_neg (by omega)]
  · exact ⟨(k : Int) + 1, L, put_old ⟨h1, by omega⟩ hm, ⟨h1, by omega⟩, Ext.refl L, by omega⟩
end Go.Proofs.YtgeonppckeiceaaGreatDoor
namespace Go.Proofs.YtgeonppckeiceaaGreatDoor
open Go.RowKit
set_option linter.unusedVariables false
set_option maxRecDepth 20000

def I64 (x : Int) : Prop := (Lit.int .i64 x).wf = true
theorem i64_small {x : Int} (h1 : 0 ≤ x) (h2 : x ≤ 1048577) : I64 x := wf_small x h1 h2
theorem wf_emp : (⟨#[]⟩ : ByteArray).size ≤ maxLen := by decide
theorem k0 : I64 0 := by unfold I64; decide
theorem k1 : I64 1 := by unfold I64; decide
theorem k2 : I64 2 := by unfold I64; decide
theorem k3 : I64 3 := by unfold I64; decide
theorem k4 : I64 4 := by unfold I64; decide
theorem k5 : I64 5 := by unfold I64; decide
theorem k6 : I64 6 := by unfold I64; decide
theorem k7 : I64 7 := by unfold I64; decide
theorem k8 : I64 8 := by unfold I64; decide
theorem k9 : I64 9 := by unfold I64; decide
theorem k10 : I64 10 := by unfold I64; decide
theorem k11 : I64 11 := by unfold I64; decide
theorem k99 : I64 99 := by unfold I64; decide
theorem u0 : (Lit.int .u64 0).wf = true := by decide
theorem u1 : (Lit.int .u64 1).wf = true := by decide
theorem u2 : (Lit.int .u64 2).wf = true := by decide
/-- A result of two, and of one, in one word. -/
def Two (v1 v2 : Value) (P : World → Prop) (w : World) (e : Ending) (w' : World) : Prop := e = .returned (.tuple #[v1, v2]) ∧ P w' ∧ Below w.heap.size w w'
def One (v : Value) (P : World → Prop) (w : World) (e : Ending) (w' : World) : Prop := e = .returned v ∧ P w' ∧ Below w.heap.size w w'
/-- A result of two, and of three, where terms may be put: the blocks of K stay. -/
def TwoK (v1 v2 : Value) (P : World → Prop) (K : Nat → Prop) (w : World) (e : Ending) (w' : World) : Prop := e = .returned (.tuple #[v1, v2]) ∧ P w' ∧ ∀ k, K k → w'.heap[k]? = w.heap[k]?
def Three (v1 v2 v3 : Value) (P : World → Prop) (K : Nat → Prop) (w : World) (e : Ending) (w' : World) : Prop := e = .returned (.tuple #[v1, v2, v3]) ∧ P w' ∧ ∀ k, K k → w'.heap[k]? = w.heap[k]?
def U64 (n : Int) : Prop := (Lit.int .u64 n).wf = true
theorem getT_in {L : List Tm} {p : Int} {t : Tm} (h : getT L p = (t, true)) : 1 ≤ p ∧ p ≤ (L.length : Int) ∧ t = L.getD (p - 1).toNat zeroT := by
  unfold getT at h
  split at h
  · rename_i hp
    injection h with h1 h2
    exact ⟨hp.1, hp.2, h1.symm⟩
  · injection h with h1 h2; cases h2
theorem getT_no {L : List Tm} {p : Int} {t : Tm} (h : getT L p = (t, false)) : t = zeroT := by
  unfold getT at h
  split at h
  · injection h with h1 h2; cases h2
  · injection h with h1 h2; exact h1.symm
/-- The parts of a term that is there are names of terms that are. -/
theorem part_in {L : List Tm} (hf : Fit L) {p : Int} {t : Tm} (h : getT L p = (t, true)) (j : Nat) (hj : j < many t.K) : 1 ≤ prt t.A t.B t.C j ∧ prt t.A t.B t.C j < p := by
  obtain ⟨q1, q2, q3⟩ := getT_in h
  have h3 := hf (p - 1).toNat (by omega) j (by rw [← q3]; exact hj)
  rw [← q3] at h3
  omega
theorem Ext.len {L L' : List Tm} (h : Ext L L') {x : Int} (hx : x ≤ (L.length : Int)) : x ≤ (L'.length : Int) := by have := h.1; omega
/-- The number of a term there, out of a byte. -/
theorem byte_in {a : Int} (ha : (Lit.int .u8 a).wf = true) : 0 ≤ a ∧ a ≤ 255 := by
  have e1 : IntKind.u8.min = 0 := by decide
  have e2 : IntKind.u8.max = 255 := by decide
  simpa only [Lit.wf, e1, e2, Bool.and_eq_true, decide_eq_true_eq] using ha
theorem pick_val (a n : Int) (ha : (Lit.int .u8 a).wf = true) (h1 : 0 < n) (h2 : n ≤ 1000) : wrap64 (1 + (wrap64 a).tmod n) = 1 + a % n := by
  have ha := byte_in ha
  have w1 : wrap64 a = a := by unfold wrap64; omega
  rw [w1, Int.tmod_eq_emod_of_nonneg ha.1]
  have b1 := Int.emod_nonneg a (by omega : n ≠ 0)
  have b2 := Int.emod_lt_of_pos a h1
  unfold wrap64
  omega
theorem pick_in (a n : Int) (ha : (Lit.int .u8 a).wf = true) (h1 : 0 < n) (h2 : n ≤ 1000) : 1 ≤ wrap64 (1 + (wrap64 a).tmod n) ∧ wrap64 (1 + (wrap64 a).tmod n) ≤ n := by
  rw [pick_val a n ha h1 h2]
  have b1 := Int.emod_nonneg a (by omega : n ≠ 0)
  have b2 := Int.emod_lt_of_pos a h1
  omega
/-- Small numbers of 64 bits without a sign. -/
theorem wrap_u64 {x : Int} (h1 : 0 ≤ x) (h2 : x ≤ 1000000) : IntKind.u64.wrap x = x := by
  simp [IntKind.wrap, IntKind.signed, IntKind.bits]
  omega
theorem u64_small {x : Int} (h1 : 0 ≤ x) (h2 : x ≤ 1000000) : U64 x := by
  have := wf_wrap .u64 x
  rw [wrap_u64 h1 h2] at this
  exact this
theorem getT_of {L : List Tm} {x : Int} (h : 1 ≤ x ∧ x ≤ (L.length : Int)) : ∃ t, getT L x = (t, true) := by
  unfold getT
  rw [if_pos h]
  exact ⟨_, rfl⟩
theorem Sound.get {L : List Tm} (h : Sound L) {x : Int} {t : Tm} (hx : getT L x = (t, true)) : t.may L.length = true := by
  obtain ⟨h1, h2, h3⟩ := getT_in hx
  rw [h3]
  exact h _ (by omega)
section
variable {base g : Nat} {most : Int} {Q2 : (Nat → Prop) → List Tm → World → Prop} {L L2 : List Tm} {K : Nat → Prop} {w0 w : World}
/-- What lies in the document's store. -/
def AtR (g : Nat) (L : List Tm) (w : World) : Prop := ∃ a cap, w.cell? ⟨g, 0, none⟩ = some (.slice a L.length cap) ∧ L.length ≤ 1048576 ∧
  ∀ k, k < L.length → ∃ b, a = some ⟨b, 0, none⟩ ∧ ∀ j v, (L.getD k zeroT).cl[j]? = some v → w.cell? ⟨b, k * 6 + j, none⟩ = some v
theorem AtR.below {w' : World} (h : AtR g L w) (hb : Below w.heap.size w w') : AtR g L w' := by
  obtain ⟨a, cap, c0, hl, hr⟩ := h
  refine ⟨a, cap, (hb.cell (block_lt_of_cell c0)).trans c0, hl, fun k hk => ?_⟩
  obtain ⟨b, h1, h2⟩ := hr k hk
  exact ⟨b, h1, fun j v hj => (hb.cell (block_lt_of_cell (h2 j v hj))).trans (h2 j v hj)⟩
end
end Go.Proofs.YtgeonppckeiceaaGreatDoor
