/- Operations of a drawn region, of which several may come up: whichever comes first. No program is named here. -/
import Derived.Lib.Hide
import Derived.OrdersHeld
import Derived.Deep.RegionHeld3
namespace Go.Proofs.Ytpbcndbmmphngaa
open Go.RowKit
set_option linter.unusedVariables false
section
variable {P : Program} {ops : Array Oper} {Q : Exit → Act → World → Prop} {md : Region.Mode} {S : World → Prop}
/-- An operation goes, and leaves a value and a world of which R tells. -/
def Goes (P : Program) (ops : Array Oper) (Q : Exit → Act → World → Prop) (S : World → Prop) (o : Oper) (a : Act) (w : World) (R : Value → World → Prop) : Prop :=
  ∀ K' : Act → World → Prop, Shut (∀ v w', S w' → R v w' → K' (a.put o.dst v) w') → if Region.wanted o (yielded ops a.tmps) = true then Oper.wp P o a w K' Q else K' (a.put o.dst undef) w
theorem wpAnyH_one {fuel : Nat} {listed : Array Bool} {a : Act} {w : World} {i : Nat} {o : Oper} {R : Value → World → Prop} (hr : Region.ready md ops listed = [i]) (ho : ops[i]? = some o) (hg : Goes P ops Q S o a w R)
    (h : ∀ v w', S w' → R v w' → wpAnyH P md ops Q S fuel (listed.setIfInBounds i true) (a.put o.dst v) w') : wpAnyH P md ops Q S (fuel + 1) listed a w :=
  wpAnyH_ready hr (by simp) (AllReadyH.cons ho (fun K hK => hg K (fun v w' hS hR => hK.out _ _ hS (fun _ => h v w' hS hR))) AllReadyH.nil)
theorem wpAnyH_pair {fuel : Nat} {listed : Array Bool} {a : Act} {w : World} {i j : Nat} {oi oj : Oper} {R1 R2 : Value → World → Prop} (hr : Region.ready md ops listed = [i, j]) (hi : ops[i]? = some oi) (hj : ops[j]? = some oj) (gi : Goes P ops Q S oi a w R1) (gj : Goes P ops Q S oj a w R2)
    (h1 : ∀ v w', S w' → R1 v w' → wpAnyH P md ops Q S fuel (listed.setIfInBounds i true) (a.put oi.dst v) w') (h2 : ∀ v w', S w' → R2 v w' → wpAnyH P md ops Q S fuel (listed.setIfInBounds j true) (a.put oj.dst v) w') : wpAnyH P md ops Q S (fuel + 1) listed a w :=
  wpAnyH_ready hr (by simp) (AllReadyH.cons hi (fun K hK => gi K (fun v w' hS hR => hK.out _ _ hS (fun _ => h1 v w' hS hR))) (AllReadyH.cons hj (fun K hK => gj K (fun v w' hS hR => hK.out _ _ hS (fun _ => h2 v w' hS hR))) AllReadyH.nil))
theorem Goes.mk {o : Oper} {a : Act} {w : World} {R : Value → World → Prop} (h : ∀ K' : Act → World → Prop, Shut (∀ v w', S w' → R v w' → K' (a.put o.dst v) w') → if Region.wanted o (yielded ops a.tmps) = true then Oper.wp P o a w K' Q else K' (a.put o.dst undef) w) : Goes P ops Q S o a w R := h
/-- Two calls, whichever comes first. -/
theorem wpAnyH_two {fuel : Nat} {listed : Array Bool} {a0 : Act} {w : World} {i j : Nat} {oi oj : Oper} (I : Option Value → Option Value → World → Prop)
    (hi : ops[i]? = some oi) (hj : ops[j]? = some oj) (h0 : (a0.put oi.dst undef).put oj.dst undef = a0)
    (r0 : Region.ready md ops listed = [i, j]) (r1 : Region.ready md ops (listed.setIfInBounds i true) = [j]) (r2 : Region.ready md ops (listed.setIfInBounds j true) = [i])
    (hl : (listed.setIfInBounds j true).setIfInBounds i true = (listed.setIfInBounds i true).setIfInBounds j true)
    (pi : ∀ x y z, ((a0.put oi.dst x).put oj.dst y).put oi.dst z = (a0.put oi.dst z).put oj.dst y) (pj : ∀ x y z, ((a0.put oi.dst x).put oj.dst y).put oj.dst z = (a0.put oi.dst x).put oj.dst z)
    (gi : ∀ x y w, S w → I none y w → Goes P ops Q S oi ((a0.put oi.dst undef).put oj.dst x) w (fun z w' => I (some z) y w'))
    (gj : ∀ x y w, S w → I y none w → Goes P ops Q S oj ((a0.put oi.dst x).put oj.dst undef) w (fun z w' => I y (some z) w'))
    (hS : S w) (hI : I none none w)
    (h : ∀ x y w', S w' → I (some x) (some y) w' → wpAnyH P md ops Q S fuel ((listed.setIfInBounds i true).setIfInBounds j true) ((a0.put oi.dst x).put oj.dst y) w') : wpAnyH P md ops Q S (fuel + 2) listed a0 w := by
  have gi0 := gi undef none w hS hI
  have gj0 := gj undef none w hS hI
  have pi0 := fun z => pi undef undef z
  have pj0 := fun z => pj undef undef z
  rw [h0] at gi0 gj0
  simp only [h0] at pi0 pj0
  refine wpAnyH_pair r0 hi hj gi0 gj0 (fun x w1 hS1 hI1 => ?_) (fun y w1 hS1 hI1 => ?_)
  · rw [pi0]
    refine wpAnyH_one r1 hj (gj x (some x) w1 hS1 hI1) (fun y w2 hS2 hI2 => ?_)
    rw [pj]
    exact h x y w2 hS2 hI2
  · rw [pj0]
    refine wpAnyH_one r2 hi (gi y (some y) w1 hS1 hI1) (fun x w2 hS2 hI2 => ?_)
    rw [pi, hl]
    exact h x y w2 hS2 hI2
/-- One call, and two of which one comes behind the other. -/
theorem wpAnyH_three {fuel : Nat} {listed : Array Bool} {a0 : Act} {w : World} {i j k : Nat} {oi oj ok : Oper} (I : Option Value → Option Value → Option Value → World → Prop)
    (hi : ops[i]? = some oi) (hj : ops[j]? = some oj) (hk : ops[k]? = some ok) (h0 : ((a0.put oi.dst undef).put oj.dst undef).put ok.dst undef = a0)
    (r0 : Region.ready md ops listed = [i, j]) (r1 : Region.ready md ops (listed.setIfInBounds i true) = [j]) (r2 : Region.ready md ops (listed.setIfInBounds j true) = [i, k])
    (r3 : Region.ready md ops ((listed.setIfInBounds i true).setIfInBounds j true) = [k]) (r4 : Region.ready md ops ((listed.setIfInBounds j true).setIfInBounds k true) = [i])
    (hl : (listed.setIfInBounds j true).setIfInBounds i true = (listed.setIfInBounds i true).setIfInBounds j true) (hm : ((listed.setIfInBounds j true).setIfInBounds k true).setIfInBounds i true = ((listed.setIfInBounds i true).setIfInBounds j true).setIfInBounds k true)
    (pi : ∀ x y z m, (((a0.put oi.dst x).put oj.dst y).put ok.dst z).put oi.dst m = ((a0.put oi.dst m).put oj.dst y).put ok.dst z) (pj : ∀ x y z m, (((a0.put oi.dst x).put oj.dst y).put ok.dst z).put oj.dst m = ((a0.put oi.dst x).put oj.dst m).put ok.dst z) (pk : ∀ x y z m, (((a0.put oi.dst x).put oj.dst y).put ok.dst z).put ok.dst m = ((a0.put oi.dst x).put oj.dst y).put ok.dst m)
    (gi : ∀ x y y' z' w, S w → I none y' z' w → Goes P ops Q S oi (((a0.put oi.dst undef).put oj.dst x).put ok.dst y) w (fun m w' => I (some m) y' z' w'))
    (gj : ∀ x x' w, S w → I x' none none w → Goes P ops Q S oj (((a0.put oi.dst x).put oj.dst undef).put ok.dst undef) w (fun m w' => I x' (some m) none w'))
    (gk : ∀ x x' y w, S w → I x' (some y) none w → Goes P ops Q S ok (((a0.put oi.dst x).put oj.dst y).put ok.dst undef) w (fun m w' => I x' (some y) (some m) w'))
    (hS : S w) (hI : I none none none w)
    (h : ∀ x y z w', S w' → I (some x) (some y) (some z) w' → wpAnyH P md ops Q S fuel (((listed.setIfInBounds i true).setIfInBounds j true).setIfInBounds k true) (((a0.put oi.dst x).put oj.dst y).put ok.dst z) w') : wpAnyH P md ops Q S (fuel + 3) listed a0 w := by
  have gi0 := gi undef undef none none w hS hI
  have gj0 := gj undef none w hS hI
  have pi0 := fun z => pi undef undef undef z
  have pj0 := fun z => pj undef undef undef z
  rw [h0] at gi0 gj0
  simp only [h0] at pi0 pj0
  refine wpAnyH_pair r0 hi hj gi0 gj0 (fun x w1 hS1 hI1 => ?_) (fun y w1 hS1 hI1 => ?_)
  · rw [pi0]
    refine wpAnyH_one r1 hj (gj x (some x) w1 hS1 hI1) (fun y w2 hS2 hI2 => ?_)
    rw [pj]
    refine wpAnyH_one r3 hk (gk x (some x) y w2 hS2 hI2) (fun z w3 hS3 hI3 => ?_)
    rw [pk]
    exact h x y z w3 hS3 hI3
  · rw [pj0]
    refine wpAnyH_pair r2 hi hk (gi y undef (some y) none w1 hS1 hI1) (gk undef none y w1 hS1 hI1) (fun x w2 hS2 hI2 => ?_) (fun z w2 hS2 hI2 => ?_)
    · rw [pi, hl]
      refine wpAnyH_one r3 hk (gk x (some x) y w2 hS2 hI2) (fun z w3 hS3 hI3 => ?_)
      rw [pk]
      exact h x y z w3 hS3 hI3
    · rw [pk]
      refine wpAnyH_one r4 hi (gi y z (some y) (some z) w2 hS2 hI2) (fun x w3 hS3 hI3 => ?_)
      rw [pi, hm]
      exact h x y z w3 hS3 hI3
/-- The same, where the one comes last in the text. -/
theorem wpAnyH_threeL {fuel : Nat} {listed : Array Bool} {a0 : Act} {w : World} {i j k : Nat} {oi oj ok : Oper} (I : Option Value → Option Value → Option Value → World → Prop)
    (hi : ops[i]? = some oi) (hj : ops[j]? = some oj) (hk : ops[k]? = some ok) (h0 : ((a0.put oi.dst undef).put oj.dst undef).put ok.dst undef = a0)
    (r0 : Region.ready md ops listed = [j, i]) (r1 : Region.ready md ops (listed.setIfInBounds i true) = [j]) (r2 : Region.ready md ops (listed.setIfInBounds j true) = [k, i])
    (r3 : Region.ready md ops ((listed.setIfInBounds i true).setIfInBounds j true) = [k]) (r4 : Region.ready md ops ((listed.setIfInBounds j true).setIfInBounds k true) = [i])
    (hl : (listed.setIfInBounds j true).setIfInBounds i true = (listed.setIfInBounds i true).setIfInBounds j true) (hm : ((listed.setIfInBounds j true).setIfInBounds k true).setIfInBounds i true = ((listed.setIfInBounds i true).setIfInBounds j true).setIfInBounds k true)
    (pi : ∀ x y z m, (((a0.put oi.dst x).put oj.dst y).put ok.dst z).put oi.dst m = ((a0.put oi.dst m).put oj.dst y).put ok.dst z) (pj : ∀ x y z m, (((a0.put oi.dst x).put oj.dst y).put ok.dst z).put oj.dst m = ((a0.put oi.dst x).put oj.dst m).put ok.dst z) (pk : ∀ x y z m, (((a0.put oi.dst x).put oj.dst y).put ok.dst z).put ok.dst m = ((a0.put oi.dst x).put oj.dst y).put ok.dst m)
    (gi : ∀ x y y' z' w, S w → I none y' z' w → Goes P ops Q S oi (((a0.put oi.dst undef).put oj.dst x).put ok.dst y) w (fun m w' => I (some m) y' z' w'))
    (gj : ∀ x x' w, S w → I x' none none w → Goes P ops Q S oj (((a0.put oi.dst x).put oj.dst undef).put ok.dst undef) w (fun m w' => I x' (some m) none w'))
    (gk : ∀ x x' y w, S w → I x' (some y) none w → Goes P ops Q S ok (((a0.put oi.dst x).put oj.dst y).put ok.dst undef) w (fun m w' => I x' (some y) (some m) w'))
    (hS : S w) (hI : I none none none w)
    (h : ∀ x y z w', S w' → I (some x) (some y) (some z) w' → wpAnyH P md ops Q S fuel (((listed.setIfInBounds i true).setIfInBounds j true).setIfInBounds k true) (((a0.put oi.dst x).put oj.dst y).put ok.dst z) w') : wpAnyH P md ops Q S (fuel + 3) listed a0 w := by
  have gi0 := gi undef undef none none w hS hI
  have gj0 := gj undef none w hS hI
  have pi0 := fun z => pi undef undef undef z
  have pj0 := fun z => pj undef undef undef z
  rw [h0] at gi0 gj0
  simp only [h0] at pi0 pj0
  refine wpAnyH_pair r0 hj hi gj0 gi0 (fun y w1 hS1 hI1 => ?_) (fun x w1 hS1 hI1 => ?_)
  · rw [pj0]
    refine wpAnyH_pair r2 hk hi (gk undef none y w1 hS1 hI1) (gi y undef (some y) none w1 hS1 hI1) (fun z w2 hS2 hI2 => ?_) (fun x w2 hS2 hI2 => ?_)
    · rw [pk]
      refine wpAnyH_one r4 hi (gi y z (some y) (some z) w2 hS2 hI2) (fun x w3 hS3 hI3 => ?_)
      rw [pi, hm]
      exact h x y z w3 hS3 hI3
    · rw [pi, hl]
      refine wpAnyH_one r3 hk (gk x (some x) y w2 hS2 hI2) (fun z w3 hS3 hI3 => ?_)
      rw [pk]
      exact h x y z w3 hS3 hI3
  · rw [pi0]
    refine wpAnyH_one r1 hj (gj x (some x) w1 hS1 hI1) (fun y w2 hS2 hI2 => ?_)
    rw [pj]
    refine wpAnyH_one r3 hk (gk x (some x) y w2 hS2 hI2) (fun z w3 hS3 hI3 => ?_)
    rw [pk]
    exact h x y z w3 hS3 hI3
end
end Go.Proofs.Ytpbcndbmmphngaa
