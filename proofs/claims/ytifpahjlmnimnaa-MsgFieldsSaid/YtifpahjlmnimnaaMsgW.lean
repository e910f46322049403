/- Calls of a region that draws its order, of which one may come ahead of, between or behind two others: one way behind them all. No program is named here but the text's own. -/
import Derived.Test.YtifpahjlmnimnaaMsgX
import Derived.Deep.RegionHeld3
import Derived.BigQuiet
namespace Go.Proofs.Ytifpahjlmnimnaa
open Go.RowKit
open Go.ChangeShapes Go.WideShapes
set_option linter.unusedVariables false
set_option linter.unusedSimpArgs false

section
variable {P : Program} {ops : Array Oper} {Q : Exit → Act → World → Prop} {md : Region.Mode} {S : World → Prop}
/-- An operation goes, and leaves a value and a world of which R tells. -/
def Goes (P : Program) (ops : Array Oper) (Q : Exit → Act → World → Prop) (S : World → Prop) (o : Oper) (a : Act) (w : World) (R : Value → World → Prop) : Prop :=
  ∀ K' : Act → World → Prop, Shut (∀ v w', S w' → R v w' → K' (a.put o.dst v) w') → if Region.wanted o (yielded ops a.tmps) = true then Oper.wp P o a w K' Q else K' (a.put o.dst undef) w
theorem wpAnyH_one {fuel : Nat} {listed : Array Bool} {a : Act} {w : World} {i : Nat} {o : Oper} {R : Value → World → Prop} (hr : Region.ready md ops listed = [i]) (ho : ops[i]? = some o) (hg : Goes P ops Q S o a w R)
    (h : ∀ v w', S w' → R v w' → wpAnyH P md ops Q S fuel (listed.setIfInBounds i true) (a.put o.dst v) w') : wpAnyH P md ops Q S (fuel + 1) listed a w :=
  wpAnyH_ready hr (by simp) (AllReadyH.cons ho (fun K hK => hg K (fun v w' hS hR => hK.out _ _ hS (fun _ => h v w' hS hR))) AllReadyH.nil)
theorem wpAnyH_pair {fuel : Nat} {listed : Array Bool} {a : Act} {w : World} {i j : Nat} {oi oj : Oper} {R1 R2 : Value → World → Prop} (hr : Region.ready md ops listed = [i, j]) (hi : ops[i]? = some oi) (hj : ops[j]? = some oj) (gi : Goes P ops Q S oi a w R1) (gj : Goes P ops Q S oj a w R2)
    (h1 : ∀ v w', S w' → R1 v w' → wpAnyH P md ops Q S fuel (listed.setIfInBounds i true) (a.put oi.dst v) w') (h2 : ∀ v w', S w' → R2 v w' → wpAnyH P md ops Q S fuel (listed.setIfInBounds j true) (a.put oj.dst v) w') : wpAnyH P md ops Q S (fuel + 1) listed a w :=
  wpAnyH_ready hr (by simp) (AllReadyH.cons hi (fun K hK => gi K (fun v w' hS hR => hK.out _ _ hS (fun _ => h1 v w' hS hR))) (AllReadyH.cons hj (fun K hK => gj K (fun v w' hS hR => hK.out _ _ hS (fun _ => h2 v w' hS hR))) AllReadyH.nil))
theorem Goes.mk {o : Oper} {a : Act} {w : World} {R : Value → World → Prop} (h : ∀ K' : Act → World → Prop, Shut (∀ v w', S w' → R v w' → K' (a.put o.dst v) w') → if Region.wanted o (yielded ops a.tmps) = true then Oper.wp P o a w K' Q else K' (a.put o.dst undef) w) : Goes P ops Q S o a w R := h
/-- Two calls, whichever comes first. -/
theorem wpAnyH_two {fuel : Nat} {listed : Array Bool} {a0 : Act} {w : World} {i j : Nat} {oi oj : Oper} (I : Option Value → Option Value → World → Prop)
    (hi : ops[i]? = some oi) (hj : ops[j]? = some oj) (h0 : (a0.put oi.dst undef).put oj.dst undef = a0)
    (r0 : Region.ready md ops listed = [i, j]) (r1 : Region.ready md ops (listed.setIfInBounds i true) = [j]) (r2 : Region.ready md ops (listed.setIfInBounds j true) = [i])
    (hl : (listed.setIfInBounds j true).setIfInBounds i true = (listed.setIfInBounds i true).setIfInBounds j true)
    (pi : ∀ x y z, ((a0.put oi.dst x).put oj.dst y).put oi.dst z = (a0.put oi.dst z).put oj.dst y) (pj : ∀ x y z, ((a0.put oi.dst x).put oj.dst y).put oj.dst z = (a0.put oi.dst x).put oj.dst z)
    (gi : ∀ x y w, S w → I none y w → Goes P ops Q S oi ((a0.put oi.dst undef).put oj.dst x) w (fun z w' => I (some z) y w'))
    (gj : ∀ x y w, S w → I y none w → Goes P ops Q S oj ((a0.put oi.dst x).put oj.dst undef) w (fun z w' => I y (some z) w'))
    (hS : S w) (hI : I none none w)
    (h : ∀ x y w', S w' → I (some x) (some y) w' → wpAnyH P md ops Q S fuel ((listed.setIfInBounds i true).setIfInBounds j true) ((a0.put oi.dst x).put oj.dst y) w') : wpAnyH P md ops Q S (fuel + 2) listed a0 w := by
  have gi0 := gi undef none w hS hI
  have gj0 := gj undef none w hS hI
  have pi0 := fun z => pi undef undef z
  have pj0 := fun z => pj undef undef z
  rw [h0] at gi0 gj0
  simp only [h0] at pi0 pj0
  refine wpAnyH_pair r0 hi hj gi0 gj0 (fun x w1 hS1 hI1 => ?_) (fun y w1 hS1 hI1 => ?_)
  · rw [pi0]
    refine wpAnyH_one r1 hj (gj x (some x) w1 hS1 hI1) (fun y w2 hS2 hI2 => ?_)
    rw [pj]
    exact h x y w2 hS2 hI2
  · rw [pj0]
    refine wpAnyH_one r2 hi (gi y (some y) w1 hS1 hI1) (fun x w2 hS2 hI2 => ?_)
    rw [pi, hl]
    exact h x y w2 hS2 hI2
/-- One call, and two of which one comes behind the other. -/
theorem wpAnyH_three {fuel : Nat} {listed : Array Bool} {a0 : Act} {w : World} {i j k : Nat} {oi oj ok : Oper} (I : Option Value → Option Value → Option Value → World → Prop)
    (hi : ops[i]? = some oi) (hj : ops[j]? = some oj) (hk : ops[k]? = some ok) (h0 : ((a0.put oi.dst undef).put oj.dst undef).put ok.dst undef = a0)
    (r0 : Region.ready md ops listed = [i, j]) (r1 : Region.ready md ops (listed.setIfInBounds i true) = [j]) (r2 : Region.ready md ops (listed.setIfInBounds j true) = [i, k])
    (r3 : Region.ready md ops ((listed.setIfInBounds i true).setIfInBounds j true) = [k]) (r4 : Region.ready md ops ((listed.setIfInBounds j true).setIfInBounds k true) = [i])
    (hl : (listed.setIfInBounds j true).setIfInBounds i true = (listed.setIfInBounds i true).setIfInBounds j true) (hm : ((listed.setIfInBounds j true).setIfInBounds k true).setIfInBounds i true = ((listed.setIfInBounds i true).setIfInBounds j true).setIfInBounds k true)
    (pi : ∀ x y z m, (((a0.put oi.dst x).put oj.dst y).put ok.dst z).put oi.dst m = ((a0.put oi.dst m).put oj.dst y).put ok.dst z) (pj : ∀ x y z m, (((a0.put oi.dst x).put oj.dst y).put ok.dst z).put oj.dst m = ((a0.put oi.dst x).put oj.dst m).put ok.dst z) (pk : ∀ x y z m, (((a0.put oi.dst x).put oj.dst y).put ok.dst z).put ok.dst m = ((a0.put oi.dst x).put oj.dst y).put ok.dst m)
    (gi : ∀ x y y' z' w, S w → I none y' z' w → Goes P ops Q S oi (((a0.put oi.dst undef).put oj.dst x).put ok.dst y) w (fun m w' => I (some m) y' z' w'))
    (gj : ∀ x x' w, S w → I x' none none w → Goes P ops Q S oj (((a0.put oi.dst x).put oj.dst undef).put ok.dst undef) w (fun m w' => I x' (some m) none w'))
    (gk : ∀ x x' y w, S w → I x' (some y) none w → Goes P ops Q S ok (((a0.put oi.dst x).put oj.dst y).put ok.dst undef) w (fun m w' => I x' (some y) (some m) w'))
    (hS : S w) (hI : I none none none w)
    (h : ∀ x y z w', S w' → I (some x) (some y) (some z) w' → wpAnyH P md ops Q S fuel (((listed.setIfInBounds i true).setIfInBounds j true).setIfInBounds k true) (((a0.put oi.dst x).put oj.dst y).put ok.dst z) w') : wpAnyH P md ops Q S (fuel + 3) listed a0 w := by
  have gi0 := gi undef undef none none w hS hI
  have gj0 := gj undef none w hS hI
  have pi0 := fun z => pi undef undef undef z
  have pj0 := fun z => pj undef undef undef z
  rw [h0] at gi0 gj0
  simp only [h0] at pi0 pj0
  refine wpAnyH_pair r0 hi hj gi0 gj0 (fun x w1 hS1 hI1 => ?_) (fun y w1 hS1 hI1 => ?_)
  · rw [pi0]
    refine wpAnyH_one r1 hj (gj x (some x) w1 hS1 hI1) (fun y w2 hS2 hI2 => ?_)
    rw [pj]
    refine wpAnyH_one r3 hk (gk x (some x) y w2 hS2 hI2) (fun z w3 hS3 hI3 => ?_)
    rw [pk]
    exact h x y z w3 hS3 hI3
  · rw [pj0]
    refine wpAnyH_pair r2 hi hk (gi y undef (some y) none w1 hS1 hI1) (gk undef none y w1 hS1 hI1) (fun x w2 hS2 hI2 => ?_) (fun z w2 hS2 hI2 => ?_)
    · rw [pi, hl]
      refine wpAnyH_one r3 hk (gk x (some x) y w2 hS2 hI2) (fun z w3 hS3 hI3 => ?_)
      rw [pk]
      exact h x y z w3 hS3 hI3
    · rw [pk]
      refine wpAnyH_one r4 hi (gi y z (some y) (some z) w2 hS2 hI2) (fun x w3 hS3 hI3 => ?_)
      rw [pi, hm]
      exact h x y z w3 hS3 hI3
end
/-- What came up so far is v. -/
def Is (o : Option Value) (v : Value) : Prop := ∀ u, o = some u → u = v
theorem Is.none (v : Value) : Is none v := fun u h => by cases h
theorem Is.some (v : Value) : Is (some v) v := fun u h => by cases h; rfl
/-- What came up so far is a row of these numbers. -/
def RowO (w : World) (o : Option Value) (L : List Int) : Prop := ∀ v, o = some v → ∃ a n cap, v = .slice a n cap ∧ n = L.length ∧ RowAt .i64 w a cap L
theorem RowO.none (w : World) (L : List Int) : RowO w none L := fun u h => by cases h
theorem RowO.below {w w' : World} {o : Option Value} {L : List Int} (h : RowO w o L) (hb : Below w.heap.size w w') : RowO w' o L := fun v e => by
  obtain ⟨a, n, cap, h1, h2, h3⟩ := h v e
  exact ⟨a, n, cap, h1, h2, h3.below hb⟩
theorem RowO.some {w : World} {a : Option Addr} {n cap : Nat} {L : List Int} (h2 : n = L.length) (h3 : RowAt .i64 w a cap L) : RowO w (some (.slice a n cap)) L := fun v e => by
  cases e; exact ⟨a, n, cap, rfl, h2, h3⟩
theorem MsgAt.drewn {w : World} {r : Nat} {M : Ms} (h : MsgAt w r M) : MsgAt w.drew r M := h
theorem RAt.drewn {w : World} {r : Nat} {M : Ms} (h : RAt w r M) : RAt w.drew r M := h
/-- A text's begin of so many bytes at most, as a letter: its facts ahead of a walk that cuts it. -/
theorem slice_facts (A : ByteArray) (k : Nat) : ∃ p : ByteArray, min (A.size : Int) k = p.size ∧ p.size ≤ A.size ∧ p.size ≤ k ∧ A.extract 0 p.size = p := by
  rcases Nat.le_total A.size k with h | h
  · exact ⟨A, by omega, Nat.le_refl _, h, by simp⟩
  · have e : (A.extract 0 k).size = k := by simp only [ByteArray.size_extract]; omega
    exact ⟨A.extract 0 k, by omega, by omega, by omega, by rw [e]⟩
theorem eqS (t : ByteArray) : (t.toList == t.toList) = true := by simp
theorem ref_l (M : Ms) (w : World) : Calls Try.prog 14 #[.agg #[.int .i64 (M.i 0), .int .u64 (M.i 1), .int .u64 (M.i 2), .string M.s, .int .i64 (M.i 4), .int .i64 (M.i 5), .int .i64 (M.i 6), .int .i64 (M.i 7), .int .i64 (M.i 8), .int .i64 (M.i 9), .int .i64 (M.i 10), .int .u64 (M.i 11), .int .u64 (M.i 12)]] w fun e w' => e = .returned (.agg #[.int .i64 (M.i 0), .int .u64 (M.i 1), .int .u64 (M.i 2), .string M.s, .int .i64 (M.i 4), .int .i64 (M.i 5), .int .i64 (M.i 6), .int .i64 (M.i 7), .int .i64 (M.i 8), .int .i64 (M.i 9), .int .i64 (M.i 10), .int .u64 (M.i 11), .int .u64 (M.i 12)]) ∧ Below w.heap.size w w' := ref_k M w
/-! Arrays of integers that came in. -/
theorem open_arr {H : Type} {enc : TypeId × Value → H} {P : Program} {w : World} {base : Nat} {sp : Nat → Bool} {held : Bool} {fuel : Nat} {t e : TypeId} {k : IntKind} {n : Nat} {cs : List Value} {x : DataW H × List MemPlace}
    (ht : P.underlying t = some (.array n e)) (he : P.underlying e = some (.int k)) (hce : P.cellsOf e = 1) (hct : P.cellsOf t = n) (h : DataW.trod enc P w base sp held fuel t cs = some x) :
    ∃ Z : Nat → Int, cs.length = n ∧ ∀ j, j < n → cs[j]? = some (.int k (Z j)) ∧ (Lit.int k (Z j)).wf = true := by
  obtain ⟨xs, m, _, _, hl, hlen, hf⟩ := DataW.trod_array ht h
  rw [hct] at hl
  have hall : ∀ j, j < n → ∃ z : Int, cs[j]? = some (.int k z) ∧ (Lit.int k z).wf = true := by
    intro j hj
    have g := hf j hj
    rw [hce, Nat.mul_one, List.getElem?_eq_getElem (by omega : j < xs.length)] at g
    have hd : (cs.drop j).take 1 = [cs[j]] := by
      rw [List.drop_eq_getElem_cons (by omega)]; rfl
    rw [hd] at g
    obtain ⟨z, e1, _, y⟩ := DataW.trod_int he g
    simp at e1
    exact ⟨z, by rw [List.getElem?_eq_getElem (by omega), e1], y⟩
  obtain ⟨Z, hZ⟩ := Go.Deep.choose_lt hall
  exact ⟨Z, hl, hZ⟩

theorem open_arrV {H : Type} {enc : TypeId × Value → H} {P : Program} {w : World} {base : Nat} {sp : Nat → Bool} {held : Bool} {fuel : Nat} {t e : TypeId} {k : IntKind} {n : Nat} {cs : Array Value} {x : DataW H × List MemPlace}
    (ht : P.underlying t = some (.array n e)) (he : P.underlying e = some (.int k)) (hce : P.cellsOf e = 1) (hct : P.cellsOf t = n) (h : DataW.trod enc P w base sp held fuel t cs.toList = some x) :
    ∃ Z : Nat → Int, cs = ((List.range n).map fun j => Value.int k (Z j)).toArray ∧ ∀ j, j < n → (Lit.int k (Z j)).wf = true := by
  obtain ⟨Z, hl, hZ⟩ := open_arr ht he hce hct h
  refine ⟨Z, ?_, fun j hj => (hZ j hj).2⟩
  obtain ⟨l⟩ := cs
  simp only at hl hZ
  congr 1
  apply List.ext_getElem?
  intro j
  rcases Nat.lt_or_ge j n with q | q
  · rw [(hZ j q).1]; simp [q]
  · rw [List.getElem?_eq_none (by rw [hl]; exact q), List.getElem?_eq_none (by simp; exact q)]

/-- A box of thirteen cells, set anew. -/
theorem row13 {w : World} {b : Nat} {t : TypeId} {cs : Array Value} (hc : cs.size = 13) (v0 v1 v2 v3 v4 v5 v6 v7 v8 v9 v10 v11 v12 : Value) (h : w.heap[b]? = some (.cells cs t (0, 0))) :
    (((((((((((((w.setCell ⟨b, 0, none⟩ v0).setCell ⟨b, 1, none⟩ v1).setCell ⟨b, 2, none⟩ v2).setCell ⟨b, 3, none⟩ v3).setCell ⟨b, 4, none⟩ v4).setCell ⟨b, 5, none⟩ v5).setCell ⟨b, 6, none⟩ v6).setCell ⟨b, 7, none⟩ v7).setCell ⟨b, 8, none⟩ v8).setCell ⟨b, 9, none⟩ v9).setCell ⟨b, 10, none⟩ v10).setCell ⟨b, 11, none⟩ v11).setCell ⟨b, 12, none⟩ v12).heap[b]? = some (.cells #[v0, v1, v2, v3, v4, v5, v6, v7, v8, v9, v10, v11, v12] t (0, 0)) := by
  obtain ⟨l⟩ := cs
  match l, hc, h with
  | [_, _, _, _, _, _, _, _, _, _, _, _, _], _, h =>
    have a0 := row_set 0 v0 h
    simp only [List.setIfInBounds_toArray, List.set_cons_zero, List.set_cons_succ] at a0
    have a1 := row_set 1 v1 a0
    simp only [List.setIfInBounds_toArray, List.set_cons_zero, List.set_cons_succ] at a1
    have a2 := row_set 2 v2 a1
    simp only [List.setIfInBounds_toArray, List.set_cons_zero, List.set_cons_succ] at a2
    have a3 := row_set 3 v3 a2
    simp only [List.setIfInBounds_toArray, List.set_cons_zero, List.set_cons_succ] at a3
    have a4 := row_set 4 v4 a3
    simp only [List.setIfInBounds_toArray, List.set_cons_zero, List.set_cons_succ] at a4
    have a5 := row_set 5 v5 a4
    simp only [List.setIfInBounds_toArray, List.set_cons_zero, List.set_cons_succ] at a5
    have a6 := row_set 6 v6 a5
    simp only [List.setIfInBounds_toArray, List.set_cons_zero, List.set_cons_succ] at a6
    have a7 := row_set 7 v7 a6
    simp only [List.setIfInBounds_toArray, List.set_cons_zero, List.set_cons_succ] at a7
    have a8 := row_set 8 v8 a7
    simp only [List.setIfInBounds_toArray, List.set_cons_zero, List.set_cons_succ] at a8
    have a9 := row_set 9 v9 a8
    simp only [List.setIfInBounds_toArray, List.set_cons_zero, List.set_cons_succ] at a9
    have a10 := row_set 10 v10 a9
    simp only [List.setIfInBounds_toArray, List.set_cons_zero, List.set_cons_succ] at a10
    have a11 := row_set 11 v11 a10
    simp only [List.setIfInBounds_toArray, List.set_cons_zero, List.set_cons_succ] at a11
    have a12 := row_set 12 v12 a11
    simp only [List.setIfInBounds_toArray, List.set_cons_zero, List.set_cons_succ] at a12
    exact a12
end Go.Proofs.Ytifpahjlmnimnaa
