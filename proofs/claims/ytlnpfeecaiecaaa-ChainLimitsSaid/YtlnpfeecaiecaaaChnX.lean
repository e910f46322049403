/- Chains: what the laws carry: stores, and blocks that hold what they held. The fixed calls of stage 15: that they answer true, and nothing that was there turns. -/
import Derived.Test.YtlnpfeecaiecaaaChnN
import Derived.Test.YtlnpfeecaiecaaaChnP
import Derived.Test.YtlnpfeecaiecaaaChnJ
import Derived.Test.YtlnpfeecaiecaaaKnowM
import Derived.Test.YtlnpfeecaiecaaaKnowLs
namespace Go.Proofs.Ytlnpfeecaiecaaa
open Go.RowKit
set_option linter.unusedVariables false
set_option linter.unusedSimpArgs false
set_option maxRecDepth 20000
/-- Stores beside each other, and blocks that are neither's, with what they hold. -/
structure Cs (base : Nat) (Q1 Q2 : (Nat → Prop) → List Tm → World → Prop) (L1 L2 : List Tm) (bs : List (Nat × Obj)) (w0 w : World) : Prop where
  pair : Pair base Q1 Q2 L1 L2 (fun k => ∃ o, (k, o) ∈ bs) w0 w
  kept : ∀ k o, (k, o) ∈ bs → w.heap[k]? = some o
section
variable {base : Nat} {Q1 Q2 : (Nat → Prop) → List Tm → World → Prop} {L1 L2 L1' L2' : List Tm} {bs : List (Nat × Obj)} {w0 w w' : World}
theorem Cs.start (h : Pair base Q1 Q2 L1 L2 (fun _ => False) w0 w) : Cs base Q1 Q2 L1 L2 [] w0 w := ⟨h.less (fun k q => by obtain ⟨o, q⟩ := q; simp at q), fun k o q => by simp at q⟩
theorem Cs.step (h : Cs base Q1 Q2 L1 L2 bs w0 w) (p : Pair base Q1 Q2 L1' L2' (fun k => ∃ o, (k, o) ∈ bs) w0 w') (hk : ∀ k, (∃ o, (k, o) ∈ bs) → w'.heap[k]? = w.heap[k]?) : Cs base Q1 Q2 L1' L2' bs w0 w' :=
  ⟨p, fun k o q => (hk k ⟨o, q⟩).trans (h.kept k o q)⟩
theorem Cs.below (g1 : Good base Q1) (g2 : Good base Q2) (h : Cs base Q1 Q2 L1 L2 bs w0 w) (hb : Below w.heap.size w w') : Cs base Q1 Q2 L1 L2 bs w0 w' :=
  ⟨h.pair.below g1 g2 hb, fun k o q => (hb.block k (h.pair.klt k ⟨o, q⟩)).trans (h.kept k o q)⟩
theorem Cs.low (h : Cs base Q1 Q2 L1 L2 bs w0 w) : Below w0.heap.size w0 w := h.pair.belowW
theorem Cs.swap (h : Cs base Q1 Q2 L1 L2 bs w0 w) : Cs base Q2 Q1 L2 L1 bs w0 w := ⟨h.pair.swap, h.kept⟩
theorem Cs.less (h : Cs base Q1 Q2 L1 L2 bs w0 w) {bs' : List (Nat × Obj)} (hs : ∀ x, x ∈ bs' → x ∈ bs) : Cs base Q1 Q2 L1 L2 bs' w0 w :=
  ⟨h.pair.less (fun k ⟨o, q⟩ => ⟨o, hs _ q⟩), fun k o q => h.kept k o (hs _ q)⟩
/-- A box is made. -/
theorem Cs.box (g1 : Good base Q1) (g2 : Good base Q2) (h : Cs base Q1 Q2 L1 L2 bs w0 w) (cs : Array Value) (t : TypeId) : Cs base Q1 Q2 L1 L2 ((w.heap.size, (.cells cs t (0, 0) : Obj)) :: bs) w0 (w.alloc (.cells cs t : Obj)) := by
  refine ⟨(h.pair.box g1 g2 (.cells cs t : Obj)).less (fun k ⟨o, q⟩ => ?_), fun k o q => ?_⟩
  · rcases List.mem_cons.1 q with e | e
    · injection e with e1 e2
      exact .inr e1
    · exact .inl ⟨o, e⟩
  · rcases List.mem_cons.1 q with e | e
    · injection e with e1 e2
      subst e1 e2
      exact heap_alloc_new w _
    · exact ((below_alloc w _).block k (h.pair.klt k ⟨o, e⟩)).trans (h.kept k o e)
/-- A row that a call has answered: its block is one of those that stay. -/
theorem Cs.row {v : Value} {xs : List Int} (h : Cs base Q1 Q2 L1 L2 bs w0 w) (p : Pair base Q1 (WithRow base Q2 v xs) L1' L2' (fun k => ∃ o, (k, o) ∈ bs) w0 w') (hk : ∀ k, (∃ o, (k, o) ∈ bs) → w'.heap[k]? = w.heap[k]?) :
    ∃ (rs : List (Nat × Obj)) (a : Option Addr) (cap : Nat), v = .slice a xs.length cap ∧ Cs base Q1 Q2 L1' L2' (rs ++ bs) w0 w' ∧ (∀ u : World, (∀ k o, (k, o) ∈ rs → u.heap[k]? = some o) → IntsAt u a cap xs) ∧ ∀ k o, (k, o) ∈ rs → ¬ ∃ o', (k, o') ∈ bs := by
  obtain ⟨p1, p2⟩ := p.dropRow
  have hc := h.step p1 hk
  rcases p2.2 with ⟨hv, hn⟩ | ⟨g, cap, cur, hv, hg, hh, h1, h2, h3, h4⟩
  · have e : xs = [] := List.eq_nil_of_length_eq_zero hn
    subst e
    exact ⟨[], none, 0, hv, by simpa using hc, fun u _ => IntsAt.none u, fun k o q => by simp at q⟩
  · refine ⟨[(g, .cells cur 3 (0, 0))], some ⟨g, 0, none⟩, cap, hv, ⟨?_, ?_⟩, fun u hu => ?_, fun k o hm e => ?_⟩
    · obtain ⟨F1, F2, q1, ⟨F3, r1, r2, r3, r4⟩, q3, q4, q5, q6⟩ := p
      have hgl := (r2.lt g (by rw [hv]; rfl)).2
      refine ⟨F1, F3, q1, r1, fun k a b => q3 k a ((r4 k).2 (.inl b)), fun k hk2 => ?_, q5, q6⟩
      obtain ⟨o, hm⟩ := hk2
      rcases List.mem_cons.1 hm with e | e
      · injection e with e1 e2
        subst e1
        exact ⟨fun a => q3 k a ((r4 k).2 (.inr (by rw [hv]; rfl))), r3 k (by rw [hv]; rfl), hgl⟩
      · obtain ⟨a, b, c⟩ := q4 k ⟨o, by simpa using e⟩
        exact ⟨a, fun e2 => b ((r4 k).2 (.inl e2)), c⟩
    · intro k o hm
      rcases List.mem_cons.1 hm with e | e
      · injection e with e1 e2
        subst e1 e2
        exact hh
      · exact hc.kept k o (by simpa using e)
    · have hu1 := hu g (.cells cur 3 (0, 0) : Obj) (by simp)
      obtain ⟨a, c, e, hi⟩ := IntsAt.own (w := u) (base := base) (v := .slice (some ⟨g, 0, none⟩) xs.length cap) (ks := xs) ⟨p2.1, .inr ⟨g, cap, cur, rfl, hg, hu1, h1, h2, h3, h4⟩⟩
      injection e with e1 e2 e3
      subst e1 e3
      exact hi
    · obtain ⟨F1, F2, q1, ⟨F3, r1, r2, r3, r4⟩, q3, q4, q5, q6⟩ := p
      rcases List.mem_cons.1 hm with e2 | e2
      · injection e2 with e3 e4
        subst e3
        exact (q4 k e).2.1 ((r4 k).2 (.inr (by rw [hv]; rfl)))
      · simp at e2
/-- A box of two cells is filled anew. -/
theorem Cs.fill (g1 : Good base Q1) (g2 : Good base Q2) (h : Cs base Q1 Q2 L1 L2 bs w0 w) {B : Nat} {x y : Value} {T : TypeId} (hm : (B, (.cells #[x, y] T (0, 0) : Obj)) ∈ bs) (hb : base ≤ B) (a b : Value) {bs' : List (Nat × Obj)} (hs : ∀ z, z ∈ bs' → z = (B, (.cells #[a, b] T (0, 0) : Obj)) ∨ (z ∈ bs ∧ z.1 ≠ B)) :
    Cs base Q1 Q2 L1 L2 bs' w0 ((w.setCell ⟨B, 0, none⟩ a).setCell ⟨B, 1, none⟩ b) := by
  have hK : (fun k => ∃ o, (k, o) ∈ bs) B := ⟨_, hm⟩
  refine ⟨((h.pair.setC g1 g2 hK hb 0 a).setC g1 g2 hK hb 1 b).less (fun k ⟨o, q⟩ => ?_), fun k o q => ?_⟩
  · rcases hs _ q with e | ⟨e, _⟩
    · injection e with e1 e2
      rw [e1]
      exact ⟨_, hm⟩
    · exact ⟨o, e⟩
  · rcases hs _ q with e | ⟨e, hne⟩
    · injection e with e1 e2
      subst e1 e2
      exact fill2 k a b (h.kept k _ hm)
    · exact (fill2_other B a b hne).trans (h.kept k o e)
end
section
variable {base g : Nat} {most : Int} {Q1 Q2 : (Nat → Prop) → List Tm → World → Prop} {L L' L1 L2 : List Tm} {bs : List (Nat × Obj)} {w0 w : World} {x ep epoch x' ep' err : Int} {ks : List Int}
theorem Cs.toP (g2 : Good base Q2) (h : Cs base (PSq base g most) Q2 L L2 bs w0 w) (hx : I64 x) (hep : I64 ep) (hepo : I64 epoch) (hf : toF L most ⟨x, ep⟩ epoch = (⟨x', ep'⟩, ks, err, L')) :
    Calls Try.prog 15 #[.agg #[.int .i64 x, .int .i64 ep], .pointer (some ⟨g, 0, none⟩), .int .i64 epoch] w fun e w' => ∃ (rs : List (Nat × Obj)) (a : Option Addr) (cap : Nat), e = .returned (.tuple #[.agg #[.int .i64 x', .int .i64 ep'], .slice a ks.length cap, .int .i64 err]) ∧ Cs base (PSq base g most) Q2 L' L2 (rs ++ bs) w0 w' ∧ (∀ u : World, (∀ k o, (k, o) ∈ rs → u.heap[k]? = some o) → IntsAt u a cap ks) ∧ ∀ k o, (k, o) ∈ rs → ¬ ∃ o', (k, o') ∈ bs :=
  (h.pair.ctoP g2 hx hep hepo hf).mono fun e w' ⟨v, he, hp, hk⟩ => by
    obtain ⟨rs, a, c, hv, h1, h2, h3⟩ := h.row hp hk
    exact ⟨rs, a, c, by rw [he, hv], h1, h2, h3⟩
theorem Cs.toR (g1 : Good base Q1) (h : Cs base Q1 (RSq base g most) L1 L bs w0 w) (hx : I64 x) (hep : I64 ep) (hepo : I64 epoch) (hf : toF L most ⟨x, ep⟩ epoch = (⟨x', ep'⟩, ks, err, L')) :
    Calls Try.prog 16 #[.pointer (some ⟨g, 0, none⟩), .agg #[.int .i64 x, .int .i64 ep], .int .i64 epoch] w fun e w' => ∃ (rs : List (Nat × Obj)) (a : Option Addr) (cap : Nat), e = .returned (.tuple #[.agg #[.int .i64 x', .int .i64 ep'], .slice a ks.length cap, .int .i64 err]) ∧ Cs base Q1 (RSq base g most) L1 L' (rs ++ bs) w0 w' ∧ (∀ u : World, (∀ k o, (k, o) ∈ rs → u.heap[k]? = some o) → IntsAt u a cap ks) ∧ ∀ k o, (k, o) ∈ rs → ¬ ∃ o', (k, o') ∈ bs :=
  (h.swap.pair.ctoR g1 hx hep hepo hf).mono fun e w' ⟨v, he, hp, hk⟩ => by
    obtain ⟨rs, a, c, hv, h1, h2, h3⟩ := h.swap.row hp hk
    exact ⟨rs, a, c, by rw [he, hv], h1.swap, h2, h3⟩
end
set_option maxHeartbeats 400000 in
theorem ref_k (x y : Int) (w : World) : Calls Try.prog 12 #[.agg #[.int .i64 x, .int .i64 y]] w fun e w' => e = .returned (.agg #[.int .i64 x, .int .i64 y]) ∧ Below w.heap.size w w' := by
  go_enter Try.func12, Try.ntmps12
  go_wp2
  exact bodyPost_ret (v := .agg #[.int .i64 x, .int .i64 y]) (by simp [results, Try.results12, go_sem]) rfl ⟨rfl, (below_alloc w _).trans ((below_alloc _ _).mono (below_alloc w _).size)⟩
end Go.Proofs.Ytlnpfeecaiecaaa

namespace Go.Proofs.Ytlnpfeecaiecaaa
open Go.RowKit
set_option linter.unusedVariables false
set_option linter.unusedSimpArgs false
def fz1 : Tm := ⟨2, ⟨#[]⟩, 1, 0, 0, 0⟩
theorem wz1 : Wf fz1 := ⟨wf_emp, k2, u1, k0, k0, k0⟩
theorem k1000 : I64 1000 := by unfold I64; decide

theorem lit_two (w : World) (x y : Int) : IntsAt (w.alloc (.cells #[.int .i64 x, .int .i64 y] 3)) (some ⟨w.heap.size, 0, none⟩) 2 [x, y] := by
  refine ⟨by simp, by decide, w.heap.size, 0, fun k hk => ⟨rfl, ?_⟩⟩
  have h := cells2 (heap_alloc_new w (.cells #[.int .i64 x, .int .i64 y] 3))
  rcases k with _ | _ | k
  · exact h.1
  · exact h.2.1
  · simp at hk
    omega
theorem same_b (a b : Option Addr) (ca cb : Nat) (ks : List Int) (w : World) (ha : IntsAt w a ca ks) (hb : IntsAt w b cb ks) :
    Calls Try.prog 17 #[.slice a ks.length ca, .slice b ks.length cb] w fun e w' => e = .returned (.bool true) ∧ Below w.heap.size w w' :=
  (same_k a b ca cb ks ks w ha hb).mono fun e w' ⟨h1, q, h2⟩ => ⟨by rw [h1, decide_eq_true rfl], by rw [h2]; exact drewN_below w q⟩
theorem cz1 : putF [] 20 fz1 = (1, 0, [fz1]) := by simp [toF, toA, nextF, badE, putF, Tm.may, May, below3, BadP, many, prt, nameOf, eqB, tl0, sz0, List.findIdx?_cons, zeroT, hashT, keyT, fz1, getT]
theorem cz2 : putF [fz1] 20 (keyT 1 1) = (2, 0, [fz1, keyT 1 1]) := by simp [toF, toA, nextF, badE, putF, Tm.may, May, below3, BadP, many, prt, nameOf, eqB, tl0, sz0, List.findIdx?_cons, zeroT, hashT, keyT, fz1, getT]
theorem cz3 : nextF [fz1, keyT 1 1] 20 ⟨1, 0⟩ = (⟨3, 1⟩, 0, [fz1, keyT 1 1, keyT 1 2]) := by simp [toF, toA, nextF, badE, putF, Tm.may, May, below3, BadP, many, prt, nameOf, eqB, tl0, sz0, List.findIdx?_cons, zeroT, hashT, keyT, fz1, getT]
theorem cz4 : toF [fz1, keyT 1 1, keyT 1 2] 20 ⟨1, 0⟩ 2 = (⟨5, 2⟩, [2, 4], 0, [fz1, keyT 1 1, keyT 1 2, keyT 3 1, keyT 3 2]) := by simp [toF, toA, nextF, badE, putF, Tm.may, May, below3, BadP, many, prt, nameOf, eqB, tl0, sz0, List.findIdx?_cons, zeroT, hashT, keyT, fz1, getT]
theorem cz5 : toF [fz1, keyT 1 1, keyT 1 2, keyT 3 1, keyT 3 2] 20 ⟨3, 1⟩ 0 = (⟨0, 0⟩, [], 12, [fz1, keyT 1 1, keyT 1 2, keyT 3 1, keyT 3 2]) := by simp [toF, toA, nextF, badE, putF, Tm.may, May, below3, BadP, many, prt, nameOf, eqB, tl0, sz0, List.findIdx?_cons, zeroT, hashT, keyT, fz1, getT]
theorem cz6 : toF [fz1, keyT 1 1, keyT 1 2, keyT 3 1, keyT 3 2] 20 ⟨1, 0⟩ 5 = (⟨0, 0⟩, [], 13, [fz1, keyT 1 1, keyT 1 2, keyT 3 1, keyT 3 2]) := by simp [toF, toA, nextF, badE, putF, Tm.may, May, below3, BadP, many, prt, nameOf, eqB, tl0, sz0, List.findIdx?_cons, zeroT, hashT, keyT, fz1, getT]
theorem cz7 : toF [fz1, keyT 1 1, keyT 1 2, keyT 3 1, keyT 3 2] 20 ⟨1, 0⟩ 0 = (⟨1, 0⟩, [], 0, [fz1, keyT 1 1, keyT 1 2, keyT 3 1, keyT 3 2]) := by simp [toF, toA, nextF, badE, putF, Tm.may, May, below3, BadP, many, prt, nameOf, eqB, tl0, sz0, List.findIdx?_cons, zeroT, hashT, keyT, fz1, getT]
theorem cz8 : nextF [fz1, keyT 1 1, keyT 1 2, keyT 3 1, keyT 3 2] 20 ⟨1, 1000⟩ = (⟨0, 0⟩, 13, [fz1, keyT 1 1, keyT 1 2, keyT 3 1, keyT 3 2]) := by simp [toF, toA, nextF, badE, putF, Tm.may, May, below3, BadP, many, prt, nameOf, eqB, tl0, sz0, List.findIdx?_cons, zeroT, hashT, keyT, fz1, getT]
theorem cz9 : putF [fz1, keyT 1 1, keyT 1 2, keyT 3 1, keyT 3 2] 20 (keyT 99 1) = (0, 1, [fz1, keyT 1 1, keyT 1 2, keyT 3 1, keyT 3 2]) := by simp [toF, toA, nextF, badE, putF, Tm.may, May, below3, BadP, many, prt, nameOf, eqB, tl0, sz0, List.findIdx?_cons, zeroT, hashT, keyT, fz1, getT]
set_option maxHeartbeats 4000000 in
set_option maxRecDepth 100000 in
theorem fixed_any (w : World) : Calls Try.prog 19 #[] w fun e w' => e = .returned (.bool true) ∧ Below w.heap.size w w' := by
  have gN := NoS.good w.heap.size
  go_enter Try.func19, Try.ntmps19
  go_wp2_with fail
  refine (Pair.new1 (base := w.heap.size) (w0 := w) rfl (Below.refl _ _) (by omega) (by omega)).mono ?_
  rintro e w1 ⟨g, rfl, h1⟩
  have gP := PSq.good w.heap.size g 20
  have HC := Lib.hid (Cs.start h1)
  clear h1
  go_wp2_with fail
  refine (HC.out.pair.putP gN fz1 wz1 cz1).mono ?_
  rintro e w2 ⟨rfl, hp, hk⟩
  replace HC := Lib.hid (HC.out.step hp hk)
  clear hp hk
  replace HC := Lib.hid (HC.out.box gP gN #[.int .i64 1, .int .i64 0] 30)
  obtain ⟨cf0, cf1, cf2, cf3⟩ := cells2 (HC.out.kept (w2.heap.size) (.cells #[.int .i64 1, .int .i64 0] 30 (0, 0) : Obj) (by simp))
  go_wp2_with fail
  clear cf0 cf1 cf2 cf3
  refine (HC.out.pair.csealP gN k1 cz2).mono ?_
  rintro e w3 ⟨rfl, hp, hk⟩
  replace HC := Lib.hid (HC.out.step hp hk)
  clear hp hk
  obtain ⟨cf0, cf1, cf2, cf3⟩ := cells2 (HC.out.kept (w2.heap.size) (.cells #[.int .i64 1, .int .i64 0] 30 (0, 0) : Obj) (by simp))
  go_wp2_with fail
  clear cf0 cf1 cf2 cf3
  refine (HC.out.pair.cnextP gN k1 k0 cz3).mono ?_
  rintro e w4 ⟨rfl, hp, hk⟩
  replace HC := Lib.hid (HC.out.step hp hk)
  clear hp hk
  replace HC := Lib.hid (HC.out.box gP gN #[.int .i64 3, .int .i64 1] 30)
  obtain ⟨cf0, cf1, cf2, cf3⟩ := cells2 (HC.out.kept (w2.heap.size) (.cells #[.int .i64 1, .int .i64 0] 30 (0, 0) : Obj) (by simp))
  go_wp2_with fail
  clear cf0 cf1 cf2 cf3
  refine (HC.out.toP gN k1 k0 k2 cz4).mono ?_
  rintro e w5 ⟨rsl, al, cl, rfl, hc, hi, _⟩
  replace HC := Lib.hid hc
  have HRl := Lib.hid hi
  clear hc hi
  replace HC := Lib.hid (HC.out.box gP gN #[.int .i64 5, .int .i64 2] 30)
  obtain ⟨df0, df1, df2, df3⟩ := cells2 (HC.out.kept (w4.heap.size) (.cells #[.int .i64 3, .int .i64 1] 30 (0, 0) : Obj) (by simp))
  go_wp2_with fail
  clear df0 df1 df2 df3
  refine (HC.out.toP gN k3 k1 k0 cz5).mono ?_
  rintro e w6 ⟨rsp, ap, cp, rfl, hc, hi, _⟩
  replace HC := Lib.hid hc
  have HRp := Lib.hid hi
  clear hc hi
  replace HC := Lib.hid (HC.out.box gP gN #[.int .i64 0, .int .i64 0] 30)
  obtain ⟨cf0, cf1, cf2, cf3⟩ := cells2 (HC.out.kept (w2.heap.size) (.cells #[.int .i64 1, .int .i64 0] 30 (0, 0) : Obj) (by simp))
  go_wp2_with fail
  clear cf0 cf1 cf2 cf3
  refine (HC.out.toP gN k1 k0 k5 cz6).mono ?_
  rintro e w7 ⟨rsq, aq, cq, rfl, hc, hi, _⟩
  replace HC := Lib.hid hc
  have HRq := Lib.hid hi
  clear hc hi
  replace HC := Lib.hid (HC.out.box gP gN #[.int .i64 0, .int .i64 0] 30)
  obtain ⟨cf0, cf1, cf2, cf3⟩ := cells2 (HC.out.kept (w2.heap.size) (.cells #[.int .i64 1, .int .i64 0] 30 (0, 0) : Obj) (by simp))
  go_wp2_with fail
  clear cf0 cf1 cf2 cf3
  refine (HC.out.toP gN k1 k0 k0 cz7).mono ?_
  rintro e w8 ⟨rsm, am, cm, rfl, hc, hi, _⟩
  replace HC := Lib.hid hc
  have HRm := Lib.hid hi
  clear hc hi
  replace HC := Lib.hid (HC.out.box gP gN #[.int .i64 1, .int .i64 0] 30)
  go_wp2_with fail
  refine (HC.out.pair.cnextP gN k1 k1000 cz8).mono ?_
  rintro e w9 ⟨rfl, hp, hk⟩
  replace HC := Lib.hid (HC.out.step hp hk)
  clear hp hk
  replace HC := Lib.hid (HC.out.box gP gN #[.int .i64 0, .int .i64 0] 30)
  go_wp2_with fail
  refine (HC.out.pair.csealP (ep := 0) gN k99 cz9).mono ?_
  rintro e w10 ⟨rfl, hp, hk⟩
  replace HC := Lib.hid (HC.out.step hp hk)
  clear hp hk
  obtain ⟨df0, df1, df2, df3⟩ := cells2 (HC.out.kept (w4.heap.size) (.cells #[.int .i64 3, .int .i64 1] 30 (0, 0) : Obj) (by simp))
  obtain ⟨xf0, xf1, xf2, xf3⟩ := cells2 (HC.out.kept (w5.heap.size) (.cells #[.int .i64 5, .int .i64 2] 30 (0, 0) : Obj) (by simp))
  go_wp2_with fail
  clear df0 df1 df2 df3 xf0 xf1 xf2 xf3
  have HL := Lib.hid (lit_two w10 2 4)
  replace HC := Lib.hid (HC.out.box gP gN #[.int .i64 2, .int .i64 4] 3)
  have hrl := HRl.out _ (fun k o q => HC.out.kept k o (by simp [q]))
  refine (same_k al _ cl 2 [2, 4] [2, 4] _ hrl HL.out).mono ?_
  rintro e ws ⟨rfl, q, hq⟩
  have hb := drewN_below (w10.alloc (.cells #[.int .i64 2, .int .i64 4] 3)) q
  rw [← hq] at hb
  replace HC := Lib.hid (HC.out.below gP gN hb)
  clear hb hq hrl HL
  rw [show decide ([2, 4] = ([2, 4] : List Int)) = true from rfl]
  obtain ⟨yf0, yf1, yf2, yf3⟩ := cells2 (HC.out.kept (w8.heap.size) (.cells #[.int .i64 1, .int .i64 0] 30 (0, 0) : Obj) (by simp))
  obtain ⟨cf0, cf1, cf2, cf3⟩ := cells2 (HC.out.kept (w2.heap.size) (.cells #[.int .i64 1, .int .i64 0] 30 (0, 0) : Obj) (by simp))
  go_wp2_with fail
  clear yf0 yf1 yf2 yf3 cf0 cf1 cf2 cf3
  go_ret
  exact ⟨rfl, HC.out.low⟩
end Go.Proofs.Ytlnpfeecaiecaaa
