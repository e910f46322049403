/- The document's pool: Add, over one word. -/
import Derived.Test.YtjcgckhheegonaaPoolGd
namespace Go.Proofs.Ytjcgckhheegonaa
open Go.RowKit
set_option linter.unusedVariables false
set_option linter.unusedSimpArgs false
set_option maxRecDepth 20000
/-- Where the one with a key lies: past the end, if none has it. -/
theorem place1 {α : Type} {d : α} {g : α → Int} {x : Int} {L : List α} (h : (L.map g).Nodup) : ∃ K, (∀ j, j < L.length → (g (L.getD j d) = x ↔ j = K)) ∧ ((∀ y, y ∈ L → g y ≠ x) → L.length ≤ K) ∧ (∀ y, y ∈ L → g y = x → K < L.length ∧ L.getD K d = y) := by
  have gd : ∀ j (hj : j < L.length), L.getD j d = L[j] := fun j hj => by rw [List.getD_eq_getElem?_getD, List.getElem?_eq_getElem hj]; rfl
  by_cases q : ∃ y, y ∈ L ∧ g y = x
  · obtain ⟨y, hy, hg⟩ := q
    obtain ⟨K, hK, e⟩ := List.mem_iff_getElem.1 hy
    have key : ∀ i j (hi : i < L.length) (hj : j < L.length), g L[i] = g L[j] → i = j := by
      intro i j hi hj e
      have hp := List.pairwise_iff_getElem.1 h
      rcases Nat.lt_trichotomy i j with a | a | a
      · exact absurd (by rw [List.getElem_map, List.getElem_map]; exact e) (hp i j (by simpa using hi) (by simpa using hj) a)
      · exact a
      · exact absurd (by rw [List.getElem_map, List.getElem_map]; exact e.symm) (hp j i (by simpa using hj) (by simpa using hi) a)
    refine ⟨K, fun j hj => ?_, fun hn => absurd hg (hn y hy), fun z hz hgz => ⟨hK, ?_⟩⟩
    · rw [gd j hj]
      constructor
      · intro e2
        exact key j K hj hK (by rw [e2, e, hg])
      · intro e2
        subst e2
        rw [e, hg]
    · obtain ⟨j, hj, ej⟩ := List.mem_iff_getElem.1 hz
      have := key j K hj hK (by rw [ej, e, hgz, hg])
      subst this
      rw [gd j hj, ej]
  · exact ⟨L.length, fun j hj => ⟨fun e => absurd ⟨_, List.getElem_mem hj, by rw [← gd j hj]; exact e⟩ q, fun e => by omega⟩, fun _ => Nat.le_refl _, fun y hy e => absurd ⟨y, hy, e⟩ q⟩
theorem radd_k {w : World} {q : Nat} {P : Pl} {v : Value} {xs : List Mv} (h : RPl w q P v xs) (hok : Pok P) (hsin : ∀ m, m ∈ P.l → U64 m.since) (f : Fr) (now : Int) (hsz : f.s.size ≤ 1000000) (hnow : U64 now) :
    Calls Try.prog 15 #[.pointer (some ⟨q, 0, none⟩), .agg f.cl, .int .u64 now] w fun e w' => ∃ v' xs', e = .returned (.tuple #[.string (addP f now P).2.1, .bool (addP f now P).2.2.1, .int .i64 (addP f now P).2.2.2]) ∧ RPl w' q (addP f now P).1 v' xs' ∧ Chg (fun k => k = q ∨ some k = v.ownBlock) w w' ∧ ∀ k, v'.ownBlock = some k → some k = v.ownBlock ∨ w.heap.size ≤ k := by
  obtain ⟨id, ix, ct, sz⟩ := f
  have fin : ∀ (t : ByteArray) (ok : Bool) (E : Nat) (L : List Ms) (e : Ending) (w' : World), (addP ⟨id, ix, ct, sz⟩ now P) = ({ P with l := L }, (t, ok, E)) →
      (e = .returned (.tuple #[.string t, .bool ok, .int .i64 E]) ∧ ∃ v' xs', RPl w' q { P with l := L } v' xs' ∧ Chg (fun k => k = q ∨ some k = v.ownBlock) w w' ∧ ∀ k, v'.ownBlock = some k → some k = v.ownBlock ∨ w.heap.size ≤ k) →
      ∃ v' xs', e = .returned (.tuple #[.string (addP ⟨id, ix, ct, sz⟩ now P).2.1, .bool (addP ⟨id, ix, ct, sz⟩ now P).2.2.1, .int .i64 (addP ⟨id, ix, ct, sz⟩ now P).2.2.2]) ∧ RPl w' q (addP ⟨id, ix, ct, sz⟩ now P).1 v' xs' ∧ Chg (fun k => k = q ∨ some k = v.ownBlock) w w' ∧ ∀ k, v'.ownBlock = some k → some k = v.ownBlock ∨ w.heap.size ≤ k := by
    intro t ok E L e w' hd ⟨he, v', xs', r⟩
    rw [hd]
    exact ⟨v', xs', he, r⟩
  cases hr : rightF ⟨id, ix, ct, sz⟩ with
  | false =>
    refine (radd_bad h hok hsin id ix ct now sz hsz hnow hr).mono fun e w' r => fin _ _ _ P.l e w' ?_ r
    unfold addP
    rw [if_pos hr]
  | true =>
    have hnr : ¬ rightF ⟨id, ix, ct, sz⟩ = false := by rw [hr]; decide
    by_cases hc : ct = 1
    · subst hc
      refine (radd_one h hok hsin id ix now sz hsz hnow hr).mono fun e w' r => fin _ _ _ (expM now P.l) e w' ?_ r
      unfold addP
      rw [if_neg hnr]
      exact if_pos rfl
    · have hcc : ¬ (ct == 1) = true := by simpa using hc
      have ha : addP ⟨id, ix, ct, sz⟩ now P = ({ P with l := (addL ⟨id, ix, ct, sz⟩ now P.slots P.bytes (expM now P.l)).1 }, (addL ⟨id, ix, ct, sz⟩ now P.slots P.bytes (expM now P.l)).2) := by
        unfold addP
        rw [if_neg hnr, if_neg hcc]
      have hox := hok.exp now
      obtain ⟨K, hK, hK0, hK1⟩ := place1 (d := (⟨[], 0⟩ : Ms)) (g := fun m => (headM m).id) (x := id) (L := expM now P.l) hox.ids
      cases hfi : findM id (expM now P.l) with
      | none =>
        have hKN := hK0 (fun y hy => find_no hfi y hy)
        by_cases hs : P.slots ≤ ((expM now P.l).length : Int)
        · refine (radd_n8 h hok hsin id ix ct now sz hsz hnow hr hc K hK hKN hs).mono fun e w' r => fin _ _ _ _ e w' ?_ r
          rw [ha]
          unfold addL
          simp only [hfi]
          rw [if_pos (.inl hs)]
        · by_cases hb : P.bytes < (heldM (expM now P.l) : Int) + (sz.size : Int)
          · refine (radd_n8b h hok hsin id ix ct now sz hsz hnow hr hc K hK hKN hs hb).mono fun e w' r => fin _ _ _ _ e w' ?_ r
            rw [ha]
            unfold addL
            simp only [hfi]
            rw [if_pos (.inr (by omega))]
          · refine (radd_new h hok hsin id ix ct now sz hsz hnow hr hc K hK hKN hs hb).mono fun e w' r => fin _ _ _ _ e w' ?_ r
            rw [ha]
            unfold addL
            simp only [hfi]
            rw [if_neg (fun r => by rcases r with r | r; exact hs r; exact hb (by omega))]
      | some m =>
        obtain ⟨hmm, hmi⟩ := find_ok hfi
        obtain ⟨hKN, hmK⟩ := hK1 m hmm hmi
        by_cases h3 : (headM m).ct = ct
        · obtain ⟨D, hD, hD0, hD1⟩ := place1 (d := zeroF) (g := Fr.ix) (x := ix) (L := m.parts) (hox.each m hmm).apart
          have h3b : ¬ ((headM m).ct == ct) = false := by rw [h3]; simp
          by_cases hany : m.parts.any (fun g => g.ix == ix) = true
          · obtain ⟨y, hy, hyx⟩ := List.any_eq_true.1 hany
            have hDn := (hD1 y hy (by simpa using hyx)).1
            refine (radd_s6 h hok hsin id ix ct now sz hsz hnow hr hc K hK hKN m hmK h3 D hD hDn).mono fun e w' r => fin _ _ _ _ e w' ?_ r
            rw [ha]
            unfold addL
            simp only [hfi]
            rw [if_neg h3b, if_pos hany]
          · have hDn := hD0 (fun y hy e => hany (List.any_eq_true.2 ⟨y, hy, by simpa using e⟩))
            by_cases hb : P.bytes < (heldM (expM now P.l) : Int) + (sz.size : Int)
            · refine (radd_s8 h hok hsin id ix ct now sz hsz hnow hr hc K hK hKN m hmK h3 D hD hDn hb).mono fun e w' r => fin _ _ _ _ e w' ?_ r
              rw [ha]
              unfold addL
              simp only [hfi]
              rw [if_neg h3b, if_neg hany, if_pos (by omega)]
            · have hb2 : ¬ P.bytes < ((heldM (expM now P.l) + sz.size : Nat) : Int) := fun r => hb (by omega)
              by_cases hlt : (m.parts.length : Int) + 1 < ct
              · refine (radd_more h hok hsin id ix ct now sz hsz hnow hr hc K hK hKN m hmK h3 D hD hDn hb _ rfl hlt).mono fun e w' r => fin _ _ _ _ e w' ?_ r
                rw [ha]
                unfold addL
                simp only [hfi]
                rw [if_neg h3b, if_neg hany, if_neg hb2, if_pos (by omega)]
              · by_cases hbg : 4096 < (joinM (m.parts ++ [(⟨id, ix, ct, sz⟩ : Fr)])).size
                · refine (radd_end4 h hok hsin id ix ct now sz hsz hnow hr hc K hK hKN m hmK h3 D hD hDn hb _ rfl hlt _ rfl hbg).mono fun e w' r => fin _ _ _ _ e w' ?_ r
                  rw [ha]
                  unfold addL
                  simp only [hfi]
                  rw [if_neg h3b, if_neg hany, if_neg hb2, if_neg (by omega), if_pos hbg]
                · refine (radd_end0 h hok hsin id ix ct now sz hsz hnow hr hc K hK hKN m hmK h3 D hD hDn hb _ rfl hlt _ rfl hbg).mono fun e w' r => fin _ _ _ _ e w' ?_ r
                  rw [ha]
                  unfold addL
                  simp only [hfi]
                  rw [if_neg h3b, if_neg hany, if_neg hb2, if_neg (by omega), if_neg hbg]
        · refine (radd_s3 h hok hsin id ix ct now sz hsz hnow hr hc K hK hKN m hmK h3).mono fun e w' r => fin _ _ _ _ e w' ?_ r
          rw [ha]
          unfold addL
          simp only [hfi]
          rw [if_pos (by simpa using h3)]
end Go.Proofs.Ytjcgckhheegonaa
