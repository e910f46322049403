/- Steps upon a store in turn, up to the first error: what they tell as a list of steps in G. -/
import Derived.Test.YtgeonppckeiceaaGreatDoorGp35
namespace Go.Proofs.YtgeonppckeiceaaGreatDoor
open Go.RowKit
set_option linter.unusedVariables false
set_option linter.unusedSimpArgs false
set_option maxRecDepth 20000
abbrev errO (c : Int) : Obj := .cells #[.int .i64 c] 34 (0, 0)
theorem turn_G {σ : Type} {n : Nat} {f : Nat → Nat} {ks : List (σ → G σ)} {t : Value} {most : Int} {St : Nat → List Tm → σ → World → Prop} {Fl : List Tm → World → Prop} {s0 : σ} {L0 : List Tm} (hl : ks.length = n)
    (he : ∀ i, i < n → ∀ (args : Array Value) (w : World), (callFunc (f i) args).run Tryz.prog w = .ok (.enter (f i) args) w)
    (hs : ∀ i k, ks[i]? = some k → ∀ L s w, St i L s w → Calls Tryz.prog (f i) #[t] w (Gp (k s most L) (fun _ => .tuple #[]) (fun L' s' w' => St (i + 1) L' s' w') Fl))
    (b off cap : Nat) (w : World) (hn : n ≤ 100) (h0 : St 0 L0 s0 (w.alloc (.cells #[.int .i64 0] 34)))
    (hrow : ∀ i L s u, St i L s u → i < n → u.cell? ⟨b, off + i, none⟩ = some (.func (.func (f i)) #[t] #[]))
    (hfr : ∀ i L s u, St i L s u → u.cell? ⟨w.heap.size, 0, none⟩ = some (.int .i64 0) ∧ u.frozen? ⟨w.heap.size, 0, none⟩ = false) (hbd : ∀ L u, Fl L u → u.cell? ⟨w.heap.size, 0, none⟩ = some (.int .i64 0) ∧ u.frozen? ⟨w.heap.size, 0, none⟩ = false) :
    Calls Tryz.prog 49 #[.slice (some ⟨b, off, none⟩) n cap] w fun e w' => (∃ s L' u, seqG ks s0 most L0 = (.ok s, L') ∧ e = .returned (.int .i64 0) ∧ St n L' s u ∧ w' = u.setCell ⟨w.heap.size, 0, none⟩ (.int .i64 0)) ∨ ∃ c L' u, seqG ks s0 most L0 = (.error c, L') ∧ c ≠ 0 ∧ e = .returned (.int .i64 c) ∧ Fl L' u ∧ w' = u.setCell ⟨w.heap.size, 0, none⟩ (.int .i64 c) := by
  have hst : Steps n f t (fun i u => ∃ L s, seqG (ks.take i) s0 most L0 = (.ok s, L) ∧ St i L s u) (fun c u => ∃ i L, seqG (ks.take i) s0 most L0 = (.error c, L) ∧ Fl L u) := by
    intro i hi
    refine ⟨he i hi, ?_⟩
    rintro u ⟨L, s, h1, h2⟩
    have hk : ks[i]? = some (ks[i]'(by omega)) := List.getElem?_eq_getElem (by omega)
    have ht : ks.take (i + 1) = ks.take i ++ [ks[i]'(by omega)] := List.take_succ_eq_append_getElem (by omega)
    refine (hs i _ hk L s u h2).mono ?_
    rintro e w' (⟨x, L', hm, rfl, hx⟩ | ⟨c, L', hm, hc, rfl, hx⟩)
    · exact .inl ⟨rfl, L', x, by rw [ht, seqG_snoc, G.to_ok h1]; exact hm, hx⟩
    · exact .inr ⟨c, hc, rfl, i + 1, L', by rw [ht, seqG_snoc, G.to_ok h1]; exact hm, hx⟩
  refine (turn_any hst b off cap w hn ⟨L0, s0, rfl, h0⟩ (fun i u ⟨L, s, _, h⟩ hi => hrow i L s u h hi) (fun i u ⟨L, s, _, h⟩ => hfr i L s u h) (fun c u ⟨i, L, _, h⟩ => hbd L u h)).mono ?_
  rintro e w' (⟨u, rfl, ⟨L, s, h1, h2⟩, rfl⟩ | ⟨c, u, hc, rfl, ⟨i, L, h1, h2⟩, rfl⟩)
  · rw [List.take_of_length_le (by omega)] at h1
    exact .inl ⟨s, L, u, h1, rfl, h2, rfl⟩
  · have := seqG_bad (ks.take i) (ks.drop i) h1
    rw [List.take_append_drop] at this
    exact .inr ⟨c, L, u, this, hc, rfl, h2, rfl⟩
/-- A box beside others. -/
theorem Cs.boxN {base : Nat} {Q1 Q2 : (Nat → Prop) → List Tm → World → Prop} {L1 L2 : List Tm} {bs : List (Nat × Obj)} {w0 w : World} (g1 : Good base Q1) (g2 : Good base Q2) (h : Cs base Q1 Q2 L1 L2 bs w0 w) (cs : Array Value) (t : TypeId) {b : Nat} (hb : w.heap.size = b) :
    Cs base Q1 Q2 L1 L2 ((b, (.cells cs t (0, 0) : Obj)) :: bs) w0 (w.alloc (.cells cs t : Obj)) := by
  subst hb
  exact h.box g1 g2 cs t
theorem cells2 {u : World} {B : Nat} {x y : Value} {T : TypeId} (h : u.heap[B]? = some (.cells #[x, y] T (0, 0))) : u.cell? ⟨B, 0, none⟩ = some x ∧ u.cell? ⟨B, 1, none⟩ = some y := by
  refine ⟨?_, ?_⟩
  all_goals simp [World.cell?, h]
theorem cell3s {u : World} {B : Nat} {x y z : Value} {T : TypeId} (h : u.heap[B]? = some (.cells #[x, y, z] T (0, 0))) : u.cell? ⟨B, 0, none⟩ = some x ∧ u.cell? ⟨B, 1, none⟩ = some y ∧ u.cell? ⟨B, 2, none⟩ = some z := by
  refine ⟨?_, ?_, ?_⟩
  all_goals simp [World.cell?, h]
theorem cells4 {u : World} {B : Nat} {x y z q : Value} {T : TypeId} (h : u.heap[B]? = some (.cells #[x, y, z, q] T (0, 0))) : u.cell? ⟨B, 0, none⟩ = some x ∧ u.cell? ⟨B, 1, none⟩ = some y ∧ u.cell? ⟨B, 2, none⟩ = some z ∧ u.cell? ⟨B, 3, none⟩ = some q := by
  refine ⟨?_, ?_, ?_, ?_⟩
  all_goals simp [World.cell?, h]
theorem zeroY_wf : zeroY.Wf := ⟨k0, k0, k0, u64_small (x := 0) (by decide) (by decide)⟩
end Go.Proofs.YtgeonppckeiceaaGreatDoor
