/- What the laws say of what can be made: sets of names within one another. -/
import Derived.Test.YtdhfnbajmjmlbaaKnowF
namespace Go.Proofs.Ytdhfnbajmjmlbaa
open Go.RowKit
set_option linter.unusedVariables false
set_option linter.unusedSimpArgs false
set_option maxRecDepth 20000

theorem size_alloc_drew (w : World) (o : Obj) : (w.alloc o).drew.heap.size = w.heap.size + 1 := by
  show (w.alloc o).heap.size = _
  simp
theorem within_names {L : List Tm} {C D : Int → Bool} (h : Le C D) : (namesIn L C).all (has (namesIn L D)) = true := by
  rw [List.all_eq_true]
  intro x hx
  rw [mem_namesIn] at hx
  rw [has_iff, mem_namesIn]
  exact ⟨hx.1, h x hx.2⟩
theorem within_known {L : List Tm} {ks : List Int} {dh kem : Bool} {C : Int → Bool} (hC : Least L ks dh kem C) (hin : ∀ x, x ∈ ks → InL L x) : ks.all (has (namesIn L C)) = true := by
  rw [List.all_eq_true]
  intro x hx
  rw [has_iff, mem_namesIn]
  exact ⟨hin x hx, hC.1.known x hx⟩
theorem again_names {L : List Tm} (hF : Fit L) {ks : List Int} {dh kem : Bool} {C D : Int → Bool} (hin : ∀ x, x ∈ ks → InL L x) (hC : Least L ks dh kem C) (hD : Least L (namesIn L C) dh kem D) : namesIn L C = namesIn L D :=
  namesIn_congr (hC.again hD (fun x => by rw [mem_namesIn]; exact ⟨fun q => q.2, fun q => ⟨hC.inL hF hin q, q⟩⟩))
theorem names_in {L : List Tm} {C : Int → Bool} : ∀ x, x ∈ namesIn L C → InL L x := fun x hx => (mem_namesIn.1 hx).1
theorem has_one {L : List Tm} {C : Int → Bool} (x : Int) : ([x] : List Int).all (has (namesIn L C)) = (allB L x && C x) := by
  simp only [List.all_cons, List.all_nil, Bool.and_true]
  rw [Bool.eq_iff_iff, has_iff, mem_namesIn, Bool.and_eq_true, allB_iff]
/-- A byte's pick among so many names. -/
theorem pick_InL {L : List Tm} {y : Int} (hy : (Lit.int .u8 y).wf = true) (h1 : 0 < L.length) (h2 : L.length ≤ 1000) : InL L (wrap64 (1 + (wrap64 y).tmod (L.length : Int))) := by
  have := pick_in y (L.length : Int) hy (by omega) (by omega)
  exact this
/-- The same names in another order, or oftener. -/
theorem Least.same {L : List Tm} {ks ms : List Int} {dh kem : Bool} {C D : Int → Bool} (hC : Least L ks dh kem C) (hD : Least L ms dh kem D) (h : ∀ x, x ∈ ks ↔ x ∈ ms) : namesIn L C = namesIn L D :=
  namesIn_congr fun n => by
    rw [Bool.eq_iff_iff]
    exact ⟨hC.more hD (fun x hx => (h x).1 hx) id id n, hD.more hC (fun x hx => (h x).2 hx) id id n⟩
end Go.Proofs.Ytdhfnbajmjmlbaa
