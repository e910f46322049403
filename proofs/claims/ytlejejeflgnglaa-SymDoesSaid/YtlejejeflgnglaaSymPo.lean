/- The program's Open, over its steps in turn. -/
import Derived.Test.YtlejejeflgnglaaSymT
import Derived.Test.YtlejejeflgnglaaSymKo
import Derived.Test.YtlejejeflgnglaaSymPs
namespace Go.Proofs.Ytlejejeflgnglaa
open Go.RowKit
set_option linter.unusedVariables false
set_option linter.unusedSimpArgs false
set_option maxRecDepth 20000
section
variable {base g : Nat} {most : Int} {Q2 : (Nat → Prop) → List Tm → World → Prop} {L L2 : List Tm} {K : Nat → Prop} {w0 w : World}

set_option maxHeartbeats 2000000 in
theorem Pair.turnOpen {A : Nat} {L' : List Tm} {y y' : Sy} {x c e : Int} (g2 : Good base Q2) (h : Pair base (PSq base g most) Q2 L L2 K w0 w) (hA : K A) (hrow : w.heap[A]? = some (.cells #[.func (.func 39) #[] #[], .func (.func 44) #[] #[], .func (.func 41) #[] #[], .func (.func 42) #[] #[]] 103 (0, 0))) (hy : y.Wf) (hx : I64 x) (hf : unsealF L most y x = (y', c, e, L')) :
    Calls Try.prog 38 #[.agg #[.pointer (some ⟨g, 0, none⟩), .int .i64 y.CK, .int .i64 y.K, .int .i64 y.H, .int .u64 y.N, .int .i64 0, .int .i64 x], .slice (some ⟨A, 0, none⟩) 4 4] w fun e' w' =>
      ∃ (v0 : Option Addr) (v5 : Int), e' = .returned (.tuple #[.agg #[.pointer v0, .int .i64 y'.CK, .int .i64 y'.K, .int .i64 y'.H, .int .u64 y'.N, .int .i64 c, .int .i64 v5], .int .i64 e]) ∧ Pair base (PSq base g most) Q2 L' L2 K w0 w' ∧ ∀ k, K k → w'.heap[k]? = w.heap[k]? := by
  have gS := PSq.good base g most
  have hbl := h.base_le
  have hkl := h.klt
  obtain ⟨hb, hr0, hr1, hk0⟩ := h.box2 gS g2 #[.pointer (some ⟨g, 0, none⟩), .int .i64 y.CK, .int .i64 y.K, .int .i64 y.H, .int .u64 y.N, .int .i64 0, .int .i64 x] #[.pointer none, .int .i64 0, .int .i64 0, .int .i64 0, .int .u64 0, .int .i64 0, .int .i64 0] 79 79
  obtain ⟨V, hV⟩ : ∃ V, (w.alloc (.cells #[.pointer (some ⟨g, 0, none⟩), .int .i64 y.CK, .int .i64 y.K, .int .i64 y.H, .int .u64 y.N, .int .i64 0, .int .i64 x] 79)).alloc (.cells #[.pointer none, .int .i64 0, .int .i64 0, .int .i64 0, .int .u64 0, .int .i64 0, .int .i64 0] 79) = V := ⟨_, rfl⟩
  rw [hV] at hb hr0 hr1 hk0
  obtain ⟨c1, e1, q1⟩ : ∃ c e, openF L y.K y.N y.H x = (c, e) := ⟨_, _, rfl⟩
  obtain ⟨y2, e2, M2, q2⟩ : ∃ u e M, sayF L most ⟨y.CK, y.K, y.H, y.N + 1⟩ x = (u, e, M) := ⟨_, _, _, rfl⟩
  have KA : Kb K w.heap.size A := .inl hA
  have KB : Kb K w.heap.size w.heap.size := .inr (.inl rfl)
  have KR : Kb K w.heap.size (w.heap.size + 1) := .inr (.inr rfl)
  have hAB : A ≠ w.heap.size := by have := hkl A hA; omega
  have hRB : w.heap.size + 1 ≠ w.heap.size := by omega
  have I0 : Stt base g most Q2 L2 (Kb K w.heap.size) w0 V w.heap.size L y 0 x V := ⟨hb, hr0, fun _ _ _ => rfl⟩
  have hout := inTurn_open (.pointer (some ⟨g, 0, none⟩)) (.int .i64 y.CK) (.int .i64 y.K) (.int .i64 y.H) (.int .u64 y.N) (.int .i64 0) (.int .i64 x) A
    (Stt base g most Q2 L2 (Kb K w.heap.size) w0 V w.heap.size L y 0 x) (fun W => ¬ (y.K = 0 ∨ y.N = lastN) ∧ Stt base g most Q2 L2 (Kb K w.heap.size) w0 V w.heap.size L y 0 x W)
    (fun W => ¬ (y.K = 0 ∨ y.N = lastN) ∧ e1 = 0 ∧ Stt base g most Q2 L2 (Kb K w.heap.size) w0 V w.heap.size L y c1 x W) (fun W => ¬ (y.K = 0 ∨ y.N = lastN) ∧ e1 = 0 ∧ Stt base g most Q2 L2 (Kb K w.heap.size) w0 V w.heap.size L ⟨y.CK, y.K, y.H, y.N + 1⟩ c1 x W)
    (fun W => ¬ (y.K = 0 ∨ y.N = lastN) ∧ e1 = 0 ∧ e2 = 0 ∧ Stt base g most Q2 L2 (Kb K w.heap.size) w0 V w.heap.size M2 y2 c1 x W)
    (fun er W => ((y.K = 0 ∨ y.N = lastN) ∧ er = 7 ∧ Stx base g most Q2 L2 (Kb K w.heap.size) w0 V w.heap.size L W) ∨ (¬ (y.K = 0 ∨ y.N = lastN) ∧ e1 ≠ 0 ∧ er = e1 ∧ Stx base g most Q2 L2 (Kb K w.heap.size) w0 V w.heap.size L W) ∨ (¬ (y.K = 0 ∨ y.N = lastN) ∧ e1 = 0 ∧ e2 ≠ 0 ∧ er = e2 ∧ Stx base g most Q2 L2 (Kb K w.heap.size) w0 V w.heap.size M2 W)) w ?_ ?_ ?_ ?_ ?_ ?_ ?_ (by rw [hV]; exact I0)
  · refine hout.mono ?_
    rintro e' w' (⟨W, x0, x1, x2, x3, x4, x5, x6, ⟨hok, rfl, rfl, hp, hwk, hkk⟩, hrw, rfl, rfl⟩ | ⟨W, er, hE, hne, rfl, rfl⟩)
    · have hrr := hrw.symm.trans hwk
      injection hrr with hrr
      injection hrr with hrr
      simp at hrr
      obtain ⟨d0, d1, d2, d3, d4, d5, d6⟩ := hrr
      subst x0 x1 x2 x3 x4 x5 x6
      rw [say_at] at q2
      by_cases hz : (putF L most (hashT y.H x)).2.1 = 0
      · rw [if_neg (by simpa using hz)] at q2
        injection q2 with r1 r2
        injection r2 with r2 r3
        subst r1 r3
        have hw := hf.symm.trans (unseal_yes hok q1 (show putF L most (hashT y.H x) = (_, 0, _) by rw [← hz]))
        injection hw with r1 hw
        injection hw with r2 hw
        injection hw with r3 r4
        subst r1 r2 r3 r4
        refine ⟨some ⟨g, 0, none⟩, x, rfl, ((hp.setS7 gS g2 KR (by omega) _ _ _ _ _ _ _).less (fun k q => .inl q)), fun k q => ?_⟩
        have := hkl k q
        rw [set7_other _ _ _ _ _ _ _ _ _ _ (by omega), hkk k (.inl q) (by omega)]
        exact hk0 k q
      · rw [if_pos (by simpa using hz)] at q2
        injection q2 with r1 r2
        injection r2 with r2 r3
        exact absurd r2 hz
    · have hkeep : ∀ W : World, (∀ k, Kb K w.heap.size k → k ≠ w.heap.size → W.heap[k]? = V.heap[k]?) → ∀ k, K k → (set7 W (w.heap.size + 1) (.pointer none) (.int .i64 0) (.int .i64 0) (.int .i64 0) (.int .u64 0) (.int .i64 0) (.int .i64 0)).heap[k]? = w.heap[k]? := fun W hkk k q => by
        have := hkl k q
        rw [set7_other _ _ _ _ _ _ _ _ _ _ (by omega), hkk k (.inl q) (by omega)]
        exact hk0 k q
      have hl : y' = zeroY ∧ c = 0 ∧ e = er ∧ ∃ Lf, L' = Lf ∧ Stx base g most Q2 L2 (Kb K w.heap.size) w0 V w.heap.size Lf W := by
        rcases hE with ⟨hok, rfl, hs⟩ | ⟨hok, n1, rfl, hs⟩ | ⟨hok, rfl, n2, rfl, hs⟩
        · have hw := hf.symm.trans (unseal_not hok)
          injection hw with r1 hw
          injection hw with r2 hw
          injection hw with r3 r4
          exact ⟨r1, r2, r3, _, r4, hs⟩
        · have hw := hf.symm.trans (unseal_no1 hok q1 n1)
          injection hw with r1 hw
          injection hw with r2 hw
          injection hw with r3 r4
          exact ⟨r1, r2, r3, _, r4, hs⟩
        · rw [say_at] at q2
          by_cases hz : (putF L most (hashT y.H x)).2.1 = 0
          · rw [if_neg (by simpa using hz)] at q2
            injection q2 with r1 r2
            injection r2 with r2 r3
            exact absurd r2.symm n2
          · rw [if_pos (by simpa using hz)] at q2
            injection q2 with r1 r2
            injection r2 with r2 r3
            have hw := hf.symm.trans (unseal_no2 hok q1 (show putF L most (hashT y.H x) = (_, _, _) from rfl) hz)
            injection hw with s1 hw
            injection hw with s2 hw
            injection hw with s3 s4
            exact ⟨s1, s2, s3.trans r2, _, s4.trans r3, hs⟩
      obtain ⟨rfl, rfl, rfl, Lf, rfl, hp, hkk⟩ := hl
      exact ⟨none, 0, rfl, (hp.setS7 gS g2 KR (by omega) _ _ _ _ _ _ _).less (fun k q => .inl q), hkeep W hkk⟩
  · rintro W ⟨hp, hwk, hkk⟩
    refine (check_c hwk rfl).mono ?_
    rintro e' w' ⟨rfl, hb'⟩
    have hp' := hp.below gS g2 hb'
    have hkk' : ∀ k, Kb K w.heap.size k → k ≠ w.heap.size → w'.heap[k]? = V.heap[k]? := fun k q hne => (hb'.block k (hp.klt k q)).trans (hkk k q hne)
    by_cases hok : y.K = 0 ∨ y.N = lastN
    · exact ⟨7, by rw [if_pos hok], .inr ⟨by decide, .inl ⟨hok, rfl, hp', hkk'⟩⟩⟩
    · exact ⟨0, by rw [if_neg hok], .inl ⟨rfl, hok, hp', hwk.of (hb'.block _ (lt_of_block hwk)), hkk'⟩⟩
  · rintro W ⟨hok, hp, hwk, hkk⟩
    refine (hp.openS g2 KB hbl hwk q1).mono ?_
    rintro e' w' ⟨rfl, hp', hwk', hk'⟩
    have hkk' : ∀ k, Kb K w.heap.size k → k ≠ w.heap.size → w'.heap[k]? = V.heap[k]? := fun k q hne => (hk' k q hne).trans (hkk k q hne)
    by_cases h1 : e1 = 0
    · exact ⟨e1, rfl, .inl ⟨h1, hok, h1, hp', hwk', hkk'⟩⟩
    · exact ⟨e1, rfl, .inr ⟨h1, .inr (.inl ⟨hok, h1, rfl, hp', hkk'⟩)⟩⟩
  · rintro W ⟨hok, h1, hp, hwk, hkk⟩
    refine (hp.countS g2 KB hbl hwk hy.n (by omega)).mono ?_
    rintro e' w' ⟨rfl, hp', hwk', hk'⟩
    exact ⟨0, rfl, .inl ⟨rfl, hok, h1, hp', hwk', fun k q hne => (hk' k q hne).trans (hkk k q hne)⟩⟩
  · rintro W ⟨hok, h1, hp, hwk, hkk⟩
    refine (hp.sayS g2 KB hbl hwk ⟨hy.ck, hy.k, hy.h, next_u64 hy.n (by omega)⟩ hx q2).mono ?_
    rintro e' w' ⟨rfl, hp', hwk', hk'⟩
    have hkk' : ∀ k, Kb K w.heap.size k → k ≠ w.heap.size → w'.heap[k]? = V.heap[k]? := fun k q hne => (hk' k q hne).trans (hkk k q hne)
    by_cases h2 : e2 = 0
    · exact ⟨e2, rfl, .inl ⟨h2, hok, h1, h2, hp', hwk', hkk'⟩⟩
    · exact ⟨e2, rfl, .inr ⟨h2, .inr (.inr ⟨hok, h1, h2, rfl, hp', hkk'⟩)⟩⟩
  · have key : ∀ W : World, (∀ k, Kb K w.heap.size k → k ≠ w.heap.size → W.heap[k]? = V.heap[k]?) → W.heap[A]? = some (.cells #[.func (.func 39) #[] #[], .func (.func 44) #[] #[], .func (.func 41) #[] #[], .func (.func 42) #[] #[]] 103 (0, 0)) := fun W hkk => ((hkk A KA hAB).trans (hk0 A hA)).trans hrow
    rintro W (⟨_, _, hkk⟩ | ⟨_, _, _, hkk⟩ | ⟨_, _, _, _, hkk⟩ | ⟨_, _, _, _, hkk⟩)
    · exact key W hkk
    · exact key W hkk
    · exact key W hkk
    · exact key W hkk
  · rintro W ⟨_, _, _, _, hwk, _⟩
    exact ⟨_, _, _, _, _, _, _, hwk⟩
  · have key : ∀ W : World, (∀ k, Kb K w.heap.size k → k ≠ w.heap.size → W.heap[k]? = V.heap[k]?) → W.heap[w.heap.size + 1]? = some (.cells #[.pointer none, .int .i64 0, .int .i64 0, .int .i64 0, .int .u64 0, .int .i64 0, .int .i64 0] 79 (0, 0)) := fun W hkk => (hkk _ KR hRB).trans hr1
    rintro W (⟨_, _, _, _, _, hkk⟩ | ⟨er, ⟨_, _, _, hkk⟩ | ⟨_, _, _, _, hkk⟩ | ⟨_, _, _, _, _, hkk⟩⟩)
    · exact key W hkk
    · exact key W hkk
    · exact key W hkk
    · exact key W hkk
end
end Go.Proofs.Ytlejejeflgnglaa
