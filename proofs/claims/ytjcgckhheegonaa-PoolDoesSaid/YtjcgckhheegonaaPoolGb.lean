/- The document's pool: what is too old is forgotten. -/
import Derived.Test.YtjcgckhheegonaaPoolGa
namespace Go.Proofs.Ytjcgckhheegonaa
open Go.RowKit
set_option linter.unusedVariables false
set_option linter.unusedSimpArgs false
set_option maxRecDepth 20000
theorem exp_app (now : Int) (a b : List Ms) : expM now (a ++ b) = expM now a ++ expM now b := List.filter_append ..
/-- From the last one down: what is there before the i-th one was looked at. -/
theorem down_next {now : Int} {l r : List Ms} {i : Nat} (hi : i < l.length) (m : Ms) (hm : l.getD i ⟨[], 0⟩ = m) :
    (oldM now m = true → (l.take (i + 1) ++ r).take i ++ (l.take (i + 1) ++ r).drop (i + 1) = l.take i ++ r) ∧ l.take (i + 1) = l.take i ++ [m] := by
  have e : l.take (i + 1) = l.take i ++ [m] := by
    rw [List.take_succ_eq_append_getElem hi, ← hm, List.getD_eq_getElem?_getD, List.getElem?_eq_getElem hi]
    rfl
  refine ⟨fun _ => ?_, e⟩
  have h1 : (l.take (i + 1)).length = i + 1 := by rw [List.length_take]; omega
  rw [List.take_append_of_le_length (by omega), List.take_take, Nat.min_eq_left (by omega), List.drop_append_of_le_length (by omega), List.drop_of_length_le (by omega), List.nil_append]
theorem exp_down {now : Int} {l : List Ms} {i : Nat} (hi : i < l.length) (m : Ms) (hm : l.getD i ⟨[], 0⟩ = m) : expM now (l.drop i) = (if oldM now m = true then [] else [m]) ++ expM now (l.drop (i + 1)) ∧ expN now (l.drop i) = (if oldM now m = true then 1 else 0) + expN now (l.drop (i + 1)) := by
  have e : l.drop i = m :: l.drop (i + 1) := by
    rw [List.drop_eq_getElem_cons hi, ← hm, List.getD_eq_getElem?_getD, List.getElem?_eq_getElem hi]
    rfl
  rw [e]
  unfold expM expN
  rw [List.filter_cons, List.countP_cons]
  cases oldM now m <;> simp <;> omega
theorem fst_getD {xs : List Mv} {l : List Ms} (e : xs.map Prod.fst = l) {i : Nat} (hi : i < xs.length) : (xs.getD i zeroG).1 = l.getD i ⟨[], 0⟩ := by
  rw [← e, List.getD_eq_getElem?_getD, List.getD_eq_getElem?_getD, List.getElem?_map, List.getElem?_eq_getElem hi]
  rfl
theorem down_bool {i : Nat} : decide ((i : Int) - 1 < 0) = decide (i = 0) := by
  by_cases h : i = 0 <;> simp [h] <;> omega
set_option maxHeartbeats 4000000 in
theorem rexp_k {w : World} {q : Nat} {P : Pl} {v : Value} {xs : List Mv} (h : RPl w q P v xs) (hl : P.l.length ≤ 1000) (hsin : ∀ m, m ∈ P.l → U64 m.since) (now : Int) (hnow : U64 now) :
    Calls Try.prog 12 #[.pointer (some ⟨q, 0, none⟩), .int .u64 now] w fun e w' => e = .returned (.int .i64 (expN now P.l)) ∧ ∃ v' xs', RPl w' q { P with l := expM now P.l } v' xs' ∧ Chg (fun k => k = q) w w' ∧ ∀ k, v'.ownBlock = some k → some k = v.ownBlock ∨ w.heap.size ≤ k := by
  obtain ⟨a, cap, g, hv, c0, _, _, _, hc1, hc2, hr⟩ := h.cells
  have HH := Lib.hid h
  have HLN := Lib.hid h.len
  have HLL := Lib.hid hl
  have HSI := Lib.hid hsin
  obtain ⟨L, hL⟩ : ∃ L, P.l = L := ⟨_, rfl⟩
  have HPL := Lib.hid hL
  obtain ⟨n, hn⟩ : ∃ n, xs.length = n := ⟨_, rfl⟩
  have HN : Hid (L.length = n ∧ n ≤ 1000) := Lib.hid (by have := h.len; rw [hL] at this hl; omega)
  have HNX := Lib.hid hn
  rw [hn] at c0
  rw [hL]
  have hn1 : (n : Int) ≤ 1000 := by have := HN.out.2; omega
  clear h hr hl hsin hL hn hc1 hc2 hv
  go_enter Try.func12, Try.ntmps12
  have HCT : Hid (∀ i, expN now (L.drop i) ≤ 1000) := Lib.hid (fun i => by
    have h1 : expN now (L.drop i) ≤ (L.drop i).length := List.countP_le_length
    rw [List.length_drop] at h1
    have := HN.out; omega)
  go_wp2_with fail
  go_loopw [5, 6] (fun x5 x6 wr => ∃ (i c : Nat) (y : Int) (v' : Value) (xs' : List Mv), i ≤ n ∧ x5 = .int .i64 c ∧ x6 = .int .i64 y ∧ y = (i : Int) - 1 ∧ Hid (c = expN now (L.drop i)) ∧ Hid (RPl wr q { P with l := L.take i ++ expM now (L.drop i) } v' xs') ∧ Hid (Chg (fun k => k = q) w wr) ∧ Hid (∀ k, v'.ownBlock = some k → some k = v.ownBlock ∨ w.heap.size ≤ k)) (fun _ x6 _ => (intG x6 + 1).toNat)
  case atStart => exact ⟨n, 0, (n : Int) - 1, v, xs, Nat.le_refl _, rfl, rfl, rfl, Lib.hid (by rw [List.drop_of_length_le (by rw [HN.out.1]; exact Nat.le_refl _)]; rfl), Lib.hid (by
    have e : L.take n ++ expM now (L.drop n) = P.l := by rw [List.drop_of_length_le (by rw [HN.out.1]; exact Nat.le_refl _), List.take_of_length_le (by rw [HN.out.1]; exact Nat.le_refl _), HPL.out]; simp [expM]
    rw [e]; exact HH.out), Lib.hid (Chg.of_below (Below.refl _ _)), Lib.hid (fun k hk => .inl hk.symm)⟩
  case round =>
    obtain ⟨i, c, y, v', xs', hi, rfl, rfl, hy, HCC, HX, HC, HOV⟩ := hrel
    cases i with
    | zero =>
      obtain rfl : y = -1 := by simpa using hy
      clear hy hi
      have e0 : L.take 0 ++ expM now (L.drop 0) = expM now L := by simp
      go_wp2_with fail
      refine bodyPost_ret (v := .int .i64 c) (by simp [results, Try.results12, go_sem]) rfl ?_
      exact ⟨by rw [HCC.out]; rfl, v', xs', by have := HX.out; rw [e0] at this; exact this, HC.out, HOV.out⟩
    | succ j =>
      obtain rfl : y = (j : Int) := by omega
      have hjn : j < n := by omega
      clear hy hi
      have HJ := Lib.hid hjn
      have j0 : (0 : Int) ≤ (j : Int) := by omega
      have hwd : wrap64 ((j : Int) - 1) = (j : Int) - 1 := by unfold wrap64; omega
      have hxl : xs'.length = (j + 1) + (expM now (L.drop (j + 1))).length := by rw [HX.out.len]; simp only [List.length_append, List.length_take]; have := HN.out.1; omega
      have HXL := Lib.hid hxl
      have hxl2 : xs'.length ≤ 1000 := by
        have h1 : (expM now (L.drop (j + 1))).length ≤ (L.drop (j + 1)).length := List.length_filter_le _ _
        rw [List.length_drop] at h1
        have := HN.out; omega
      have HXM := Lib.hid hxl2
      obtain ⟨a', cap', g', hv', c0', _, _, _, d1, d2, hr'⟩ := HX.out.cells
      obtain ⟨rfl, _, x1, _⟩ := hr' j (by omega)
      obtain ⟨m, hm⟩ : ∃ m, L.getD j ⟨[], 0⟩ = m := ⟨_, rfl⟩
      have hmx : (xs'.getD j zeroG).1 = m := by
        rw [fst_getD HX.out.fst (by omega)]
        show (L.take (j + 1) ++ expM now (L.drop (j + 1))).getD j ⟨[], 0⟩ = m
        rw [← hm, List.getD_eq_getElem?_getD, List.getElem?_append_left (by rw [List.length_take]; have := HN.out.1; omega), List.getElem?_take_of_lt (by omega), ← List.getD_eq_getElem?_getD]
      obtain ⟨s, hs⟩ : ∃ s, m.since = s := ⟨_, rfl⟩
      rw [hmx, hs] at x1
      obtain ⟨nx, hnx⟩ : ∃ nx, xs'.length = nx := ⟨_, rfl⟩
      rw [hnx] at c0' d1
      have hjx : (j : Int) < (nx : Int) := by omega
      have HDN := Lib.hid (down_next (now := now) (l := L) (r := expM now (L.drop (j + 1))) (i := j) (by rw [HN.out.1]; exact hjn) m hm)
      have HED := Lib.hid (exp_down (now := now) (l := L) (i := j) (by rw [HN.out.1]; exact hjn) m hm)
      have hml : m ∈ L := by rw [← hm, List.getD_eq_getElem?_getD, List.getElem?_eq_getElem (by rw [HN.out.1]; exact hjn)]; exact List.getElem_mem _
      have hu : U64 s := by rw [← hs]; exact HSI.out m (by rw [HPL.out]; exact hml)
      have HOE : Hid (oldM now m = (decide (s < now) && decide (50 < now - s))) := Lib.hid (by unfold oldM; rw [hs])
      have HCB : Hid (c ≤ 1000) := Lib.hid (by rw [HCC.out]; exact HCT.out _)
      have hwc : IntKind.i64.wrap ((c : Int) + 1) = ((c + 1 : Nat) : Int) := by have := HCB.out; rw [i64_mill (by omega) (by omega)]; omega
      have HHV := Lib.hid hv'
      clear hr' hm hmx hs hnx hxl hxl2 hml hjn d2 hv'
      cases q0 : decide (s < now) with
      | false =>
        have hlt : ¬ s < now := by simpa using q0
        have HO : Hid (oldM now m = false) := Lib.hid (by rw [HOE.out, q0]; rfl)
        clear q0
        go_wp2_with fail
        go_roundw
        case rel => exact ⟨j, c, (j : Int) - 1, v', xs', Nat.le_of_lt HJ.out, rfl, (by rw [hwd]), rfl, Lib.hid (by rw [HED.out.2, HO.out, HCC.out]; simp), Lib.hid (by
          have := HX.out
          rw [HDN.out.2, List.append_assoc] at this
          rw [HED.out.1, HO.out]
          exact this), HC, HOV⟩
        case measure => rw [hwd]; simp [intG]
      | true =>
        have hlt : s < now := by simpa using q0
        have hw : IntKind.u64.wrap (now - s) = now - s := U64.wrap ⟨by have := hu.1; omega, by have := hu.1; have := hnow.2; omega⟩
        cases q1 : decide (50 < now - s) with
        | false =>
          have hl2 : ¬ 50 < now - s := by simpa using q1
          have HO : Hid (oldM now m = false) := Lib.hid (by rw [HOE.out, q0, q1]; rfl)
          clear q0 q1
          go_wp2_with fail
          go_roundw
          case rel => exact ⟨j, c, (j : Int) - 1, v', xs', Nat.le_of_lt HJ.out, rfl, (by rw [hwd]), rfl, Lib.hid (by rw [HED.out.2, HO.out, HCC.out]; simp), Lib.hid (by
            have := HX.out
            rw [HDN.out.2, List.append_assoc] at this
            rw [HED.out.1, HO.out]
            exact this), HC, HOV⟩
          case measure => rw [hwd]; simp [intG]
        | true =>
          have hl2 : 50 < now - s := by simpa using q1
          have HO : Hid (oldM now m = true) := Lib.hid (by rw [HOE.out, q0, q1]; rfl)
          clear q0 q1
          go_wp2_with (first | (go_at_call 24; refine (rwo_k HX.out HXM.out (i := j) (by have := HXL.out; omega)).mono ?_; rintro e w2 ⟨v2, rfl, hx2, hc2, hf2⟩; have HX2 := Lib.hid hx2; have HC2 := Lib.hid hc2; have HF2 := Lib.hid hf2; clear hx2 hc2 hf2) | go_in)
          go_roundw
          case rel => exact ⟨j, c + 1, (j : Int) - 1, v2, _, Nat.le_of_lt HJ.out, rfl, (by rw [hwd]), rfl, Lib.hid (by rw [HED.out.2, HO.out, HCC.out]; simp; omega), Lib.hid (by
            have := HX2.out
            rw [HDN.out.1 HO.out] at this
            rw [HED.out.1, HO.out]
            exact this), Lib.hid (HC.out.trans HC2.out), Lib.hid (fun k hk => .inr (Nat.le_trans HC.out.size (HF2.out k hk)))⟩
          case measure => rw [hwd]; simp [intG]
end Go.Proofs.Ytjcgckhheegonaa
