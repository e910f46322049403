/- The program's store in one word, its calls' contracts at given answers, and the fixed calls: that they answer true, and nothing that was there turns. -/
import Derived.Test.YtlnpfeecaiecaaaWalksV
namespace Go.Proofs.Ytlnpfeecaiecaaa
open Go.RowKit
open Go.Maps
set_option linter.unusedVariables false
set_option maxRecDepth 20000

/-- A term of well formed fields. -/
def Wf (t : Tm) : Prop := t.S.size ≤ maxLen ∧ (Lit.int .i64 t.K).wf = true ∧ (Lit.int .u64 t.N).wf = true ∧ (Lit.int .i64 t.A).wf = true ∧ (Lit.int .i64 t.B).wf = true ∧ (Lit.int .i64 t.C).wf = true
theorem Wf.key {t : Tm} (h : Wf t) : ∃ l, keyOf Try.prog 59 t.v = some l := term_key t h.1 h.2.1 h.2.2.1 h.2.2.2.1 h.2.2.2.2.1 h.2.2.2.2.2

theorem put_p {base g : Nat} {F : Nat → Prop} {L : List Tm} {most : Int} (t : Tm) (w : World) (h : PS base g F L most w) (ht : Wf t) : Calls Try.prog 22 #[.pointer (some ⟨g, 0, none⟩), t.v] w (PutP base g F L most t w) := by
  obtain ⟨gl, bm, tv, dv, D, h⟩ := h
  obtain ⟨kl, hk⟩ := ht.key
  exact putP_any t kl w h hk ht.1
theorem get_p {base g : Nat} {F : Nat → Prop} {L : List Tm} {most : Int} (w : World) (h : PS base g F L most w) (name : Int) :
    Calls Try.prog 32 #[.pointer (some ⟨g, 0, none⟩), .int .i64 name] w fun e w' => e = .returned (.tuple #[(getT L name).1.v, .bool (getT L name).2]) ∧ Below w.heap.size w w' := by
  obtain ⟨gl, bm, tv, dv, D, h⟩ := h
  exact getP_any w h name
theorem depth_p {base g : Nat} {F : Nat → Prop} {L : List Tm} {most : Int} (w : World) (h : PS base g F L most w) (name : Int) :
    Calls Try.prog 48 #[.pointer (some ⟨g, 0, none⟩), .int .i64 name] w fun e w' => e = .returned (.int .i64 (depthOf L name)) ∧ w = w' := by
  obtain ⟨gl, bm, tv, dv, D, h⟩ := h
  exact depthP_any w h name
theorem len_p {base g : Nat} {F : Nat → Prop} {L : List Tm} {most : Int} (w : World) (h : PS base g F L most w) :
    Calls Try.prog 20 #[.pointer (some ⟨g, 0, none⟩)] w fun e w' => e = .returned (.int .i64 L.length) ∧ w = w' := by
  obtain ⟨gl, bm, tv, dv, D, h⟩ := h
  exact lenP_any w h
theorem PS.chg {base g : Nat} {F S : Nat → Prop} {L : List Tm} {most : Int} {w w' : World} (h : PS base g F L most w) (hc : Chg S w w') (hn : ∀ k, F k → ¬ S k) : PS base g F L most w' := by
  obtain ⟨gl, bm, tv, dv, D, h⟩ := h
  exact ⟨gl, bm, tv, dv, D, h.chg hc hn⟩
theorem PS.below {base g : Nat} {F : Nat → Prop} {L : List Tm} {most : Int} {w w' : World} (h : PS base g F L most w) (hb : Below w.heap.size w w') : PS base g F L most w' :=
  h.chg (S := fun _ => False) (.of_below hb) (fun _ _ q => q)
theorem PS.bounds {base g : Nat} {F : Nat → Prop} {L : List Tm} {most : Int} {w : World} (h : PS base g F L most w) : ∀ k, F k → base ≤ k ∧ k < w.heap.size := by
  obtain ⟨gl, bm, tv, dv, D, h⟩ := h
  exact h.f6
theorem PS.hd {base g : Nat} {F : Nat → Prop} {L : List Tm} {most : Int} {w : World} (h : PS base g F L most w) : F g := by
  obtain ⟨gl, bm, tv, dv, D, h⟩ := h
  exact h.f1
theorem PS.fit {base g : Nat} {F : Nat → Prop} {L : List Tm} {most : Int} {w : World} (h : PS base g F L most w) : Fit L ∧ (L.length : Int) ≤ most ∧ most ≤ 1048576 := by
  obtain ⟨gl, bm, tv, dv, D, h⟩ := h
  exact ⟨h.fit, h.room, h.most⟩
theorem PS.base_le {base g : Nat} {F : Nat → Prop} {L : List Tm} {most : Int} {w : World} (h : PS base g F L most w) : base ≤ w.heap.size := by
  have := h.bounds g h.hd; omega

/-- The store, in whatever blocks of the call's own. -/
def PSe (base g : Nat) (L : List Tm) (most : Int) (w0 w : World) : Prop := (∃ F, PS base g F L most w) ∧ base = w0.heap.size ∧ Below base w0 w
theorem PSe.below {base g : Nat} {L : List Tm} {most : Int} {w0 w w' : World} (h : PSe base g L most w0 w) (hb : Below w.heap.size w w') : PSe base g L most w0 w' := by
  obtain ⟨⟨F, h1⟩, h2, h3⟩ := h
  exact ⟨⟨F, h1.below hb⟩, h2, h3.trans (hb.mono h1.base_le)⟩
theorem new_e (base : Nat) (most : Int) (w0 w : World) (h0 : base = w0.heap.size) (hb : Below base w0 w) (h1 : 0 ≤ most) (h2 : most ≤ 1048576) :
    Calls Try.prog 21 #[.int .i64 most] w fun e w' => ∃ g, e = .returned (.tuple #[.pointer (some ⟨g, 0, none⟩), .int .i64 0]) ∧ PSe base g [] most w0 w' := by
  have hbs : base ≤ w.heap.size := by rw [h0]; exact hb.size
  refine (newP_good base most w h1 h2 hbs).mono ?_
  rintro e w' ⟨g, rfl, hp, hb'⟩
  exact ⟨g, rfl, ⟨_, hp⟩, h0, hb.trans (hb'.mono hbs)⟩
theorem put_e {base g : Nat} {L L' : List Tm} {most a b : Int} {w0 : World} (t : Tm) (w : World) (h : PSe base g L most w0 w) (ht : Wf t) (hf : putF L most t = (a, b, L')) :
    Calls Try.prog 22 #[.pointer (some ⟨g, 0, none⟩), t.v] w fun e w' => e = .returned (.tuple #[.int .i64 a, .int .i64 b]) ∧ PSe base g L' most w0 w' := by
  obtain ⟨⟨F, h1⟩, h2, h3⟩ := h
  refine (put_p t w h1 ht).mono ?_
  rintro e w' ⟨rfl, p1, p2⟩
  rw [hf] at p1 ⊢
  exact ⟨rfl, ⟨_, p1⟩, h2, h3.trans (p2.below (fun k hk => (h1.bounds k hk).1) h1.base_le)⟩
theorem get_e {base g : Nat} {L : List Tm} {most : Int} {w0 : World} {x : Tm × Bool} (w : World) (h : PSe base g L most w0 w) (name : Int) (hx : getT L name = x) :
    Calls Try.prog 32 #[.pointer (some ⟨g, 0, none⟩), .int .i64 name] w fun e w' => e = .returned (.tuple #[x.1.v, .bool x.2]) ∧ PSe base g L most w0 w' := by
  have h' := h
  obtain ⟨⟨F, h1⟩, h2, h3⟩ := h
  refine (get_p w h1 name).mono ?_
  rintro e w' ⟨rfl, hb⟩
  rw [hx]
  exact ⟨rfl, h'.below hb⟩
theorem depth_e {base g : Nat} {L : List Tm} {most x : Int} {w0 : World} (w : World) (h : PSe base g L most w0 w) (name : Int) (hx : depthOf L name = x) :
    Calls Try.prog 48 #[.pointer (some ⟨g, 0, none⟩), .int .i64 name] w fun e w' => e = .returned (.int .i64 x) ∧ w = w' := by
  obtain ⟨⟨F, h1⟩, h2, h3⟩ := h
  rw [← hx]
  exact depth_p w h1 name
theorem len_e {base g : Nat} {L : List Tm} {most x : Int} {w0 : World} (w : World) (h : PSe base g L most w0 w) (hx : (L.length : Int) = x) :
    Calls Try.prog 20 #[.pointer (some ⟨g, 0, none⟩)] w fun e w' => e = .returned (.int .i64 x) ∧ w = w' := by
  obtain ⟨⟨F, h1⟩, h2, h3⟩ := h
  rw [← hx]
  exact len_p w h1

theorem sz0 : (⟨#[]⟩ : ByteArray).size = 0 := rfl
theorem tl0 : (⟨#[]⟩ : ByteArray).toList = [] := (empty_iff _).2 rfl
theorem wf0 : Wf zeroT := ⟨by decide, by decide, by decide, by decide, by decide, by decide⟩
end Go.Proofs.Ytlnpfeecaiecaaa
