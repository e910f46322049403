/- The document's Depth, for every store that the call owns whose terms' parts come ahead of them. -/
import Derived.Test.YtbmbglbbojacpaaWalksP
namespace Go.Proofs.Ytbmbglbbojacpaa
open Go.RowKit
set_option linter.unusedVariables false

/-- The deepest of the first j parts. -/
def mx (acc : List Nat) (t : Tm) : Nat → Nat
  | 0 => 0
  | j + 1 => max (mx acc t j) (acc.getD (prt t.A t.B t.C j).toNat 0)
def stepD (acc : List Nat) (t : Tm) : List Nat := acc ++ [mx acc t (many t.K) + 1]
/-- How deep the names 0 and on are. -/
def depths : List Tm → List Nat := fun L => L.foldl stepD [0]
theorem depths_snoc (L : List Tm) (t : Tm) : depths (L ++ [t]) = stepD (depths L) t := by simp [depths]
theorem depths_length (L : List Tm) : (depths L).length = L.length + 1 := by
  unfold depths
  suffices h : ∀ (L : List Tm) (acc : List Nat), (L.foldl stepD acc).length = acc.length + L.length by rw [h]; simp; omega
  intro L
  induction L with
  | nil => intro acc; simp
  | cons t L ih => intro acc; rw [List.foldl_cons, ih]; simp [stepD]; omega
/-- Each term's parts are names ahead of it. -/
def Fit (L : List Tm) : Prop := ∀ k, k < L.length → ∀ j, j < many (L.getD k zeroT).K → 1 ≤ prt (L.getD k zeroT).A (L.getD k zeroT).B (L.getD k zeroT).C j ∧ prt (L.getD k zeroT).A (L.getD k zeroT).B (L.getD k zeroT).C j ≤ (k : Int)
def depthOf (L : List Tm) (name : Int) : Int := if 1 ≤ name ∧ name ≤ (L.length : Int) then ((depths (L.take name.toNat)).getD name.toNat 0 : Nat) else 0
def intsV (l : List Nat) : List Value := l.map fun (n : Nat) => Value.int .i64 n
theorem take_snocT (L : List Tm) (k : Nat) (h : k < L.length) : L.take (k + 1) = L.take k ++ [L.getD k zeroT] := by
  rw [List.take_succ_eq_append_getElem h]; simp [List.getD, h]
theorem mx_le (acc : List Nat) (t : Tm) (M : Nat) (h : ∀ i, acc.getD i 0 ≤ M) : ∀ j, mx acc t j ≤ M := by
  intro j
  induction j with
  | zero => exact Nat.zero_le _
  | succ j ih => have := h (prt t.A t.B t.C j).toNat; simp only [mx]; omega
theorem depths_le (L : List Tm) : ∀ k, k ≤ L.length → ∀ i, (depths (L.take k)).getD i 0 ≤ k := by
  intro k
  induction k with
  | zero => intro _ i; cases i <;> simp [depths]
  | succ k ih =>
    intro hk i
    rw [take_snocT L k (by omega), depths_snoc, stepD]
    have h1 := mx_le _ (L.getD k zeroT) k (ih (by omega)) (many (L.getD k zeroT).K)
    have h2 := ih (by omega) i
    generalize L.getD k zeroT = u at h1 ⊢
    simp only [List.getD_eq_getElem?_getD] at h2 ⊢
    rw [List.getElem?_append]
    split
    · omega
    · cases hq : i - (depths (L.take k)).length with
      | zero => simp; omega
      | succ q => simp

theorem vmax (a b : Nat) : Value.int .i64 (if a < b then (b : Int) else (a : Int)) = Value.int .i64 ((max a b : Nat) : Int) := by congr 1; split <;> omega

theorem info3 : (Try.prog.info? 3).map (fun i => (i.zero, i.size, i.bytes)) = some (some (.int .i64 0), 1, 8) := by kernel_rfl

set_option maxHeartbeats 400000 in
theorem depth_low (g : Nat) (name : Int) (w : World) (h : name < 1) :
    Calls Try.prog 17 #[.pointer (some ⟨g, 0, none⟩), .int .i64 name] w fun e w' => e = .returned (.int .i64 0) ∧ Below w.heap.size w w' := by
  have e1 : decide (name < 1) = true := by simp; omega
  go_enter Try.func17, Try.ntmps17
  go_wp2
  go_ret
  exact ⟨rfl, Below.refl _ _⟩

set_option maxHeartbeats 400000 in
theorem depth_high (g n cap : Nat) (a : Option Addr) (name : Int) (w : World) (hg : w.cell? ⟨g, 0, none⟩ = some (.slice a n cap)) (h : (n : Int) < name) :
    Calls Try.prog 17 #[.pointer (some ⟨g, 0, none⟩), .int .i64 name] w fun e w' => e = .returned (.int .i64 0) ∧ Below w.heap.size w w' := by
  have e1 : decide (name < 1) = false := by simp; omega
  have e2 : decide ((n : Int) < name) = true := by simp; omega
  go_enter Try.func17, Try.ntmps17
  go_wp2
  go_ret
  exact ⟨rfl, Below.refl _ _⟩

set_option maxHeartbeats 2000000 in
set_option maxRecDepth 100000 in
theorem depth_in (base g : Nat) (sv : Value) (L : List Tm) (most : Int) (q : Nat) (w : World) (h : RS base g sv L most w) (hf : Fit L) (hq0 : 1 ≤ q) (hq : q ≤ L.length) :
    Calls Try.prog 17 #[.pointer (some ⟨g, 0, none⟩), .int .i64 q] w fun e w' => e = .returned (.int .i64 ((depths (L.take q)).getD q 0 : Nat)) ∧ Below w.heap.size w w' := by
  obtain ⟨a, cap, rfl, c0, c1⟩ := h.head
  have HR := Lib.hid h
  have HF := Lib.hid hf
  have hL := h.2.2.2.2
  have e1 : decide ((q : Int) < 1) = false := by simp; omega
  have e2 : decide (L.length < q) = false := by simp; omega
  obtain ⟨i0, hi, hz0, hz1, hz2⟩ := info_parts info3
  clear h hf c1
  go_enter Try.func17, Try.ntmps17
  go_wp2
  go_loopw [5, 6] (fun v i wr => ∃ k : Nat, k ≤ q ∧ i = .int .i64 k ∧ Hid (wr.ownsRow w.heap.size 3 1 v (k + 1) (intsV (depths (L.take k)))) ∧ Hid (Below w.heap.size w wr)) (fun _ i _ => q - (intOf i).toNat)
  case atStart =>
    refine ⟨0, Nat.zero_le _, rfl, Lib.hid ⟨by simp [intsV, depths], .inr ⟨w.heap.size, 1, #[.int .i64 0], rfl, Nat.le_refl _, heap_alloc_new w _, Nat.le_refl _, by unfold maxLen; omega, rfl, rfl⟩⟩, Lib.hid ((Below.refl _ _).alloc (Nat.le_refl _) _)⟩
  case round =>
    obtain ⟨k, hk, rfl, HO, HB⟩ := hrel
    obtain ⟨gd, capd, rfl, hgd1, hgd2⟩ := HO.out.form (by omega)
    by_cases hlt : k < q
    · have hkL : k < L.length := by omega
      have HRr := Lib.hid (HR.out.below HB.out)
      obtain ⟨b, cap', hsv', hrow⟩ := HRr.out.row k hkL
      injection hsv' with p1 p2 p3
      subst p1 p3
      obtain ⟨a', cap'', hsv'', c0r, c1r⟩ := HRr.out.head
      injection hsv'' with p1 p2 p3
      subst p1 p3
      clear p2 c1r c0
      obtain ⟨u, hu⟩ : ∃ u, u = L.getD k zeroT := ⟨_, rfl⟩
      rw [← hu] at hrow
      have HU := Lib.hid hu
      clear hu
      obtain ⟨K', S', N', A', B', C'⟩ := u
      have q0 := hrow 0 _ rfl
      have q1 := hrow 1 _ rfl
      have q2 := hrow 2 _ rfl
      have q3 := hrow 3 _ rfl
      have q4 := hrow 4 _ rfl
      have q5 := hrow 5 _ rfl
      simp at q0 q1 q2 q3 q4 q5
      have hk3 : (k : Int) < L.length := by omega
      have Hlt := Lib.hid hlt
      clear hrow
      go_wp2_with fail
      refine (parts_any _ _ _ _ _ _ _).mono ?_
      rintro e w' ⟨rfl, rfl⟩
      go_wp2
      have HF1 := Lib.hid (fun j hj => HF.out k hkL j (by rw [← HU.out]; exact hj))
      rw [← HU.out] at HF1
      have HM := Lib.hid (many_le K')
      obtain ⟨W2, hW2⟩ : ∃ W2, W2 = (wr.alloc (.cells #[.int .i64 K', .string S', .int .u64 N', .int .i64 A', .int .i64 B', .int .i64 C'] 37)).alloc (.cells #[.int .i64 A', .int .i64 B', .int .i64 C'] 3) := ⟨_, rfl⟩
      have HP : Hid (∀ j, j < 3 → W2.cell? ⟨wr.heap.size + 1, j, none⟩ = some (.int .i64 (prt A' B' C' j))) := Lib.hid (fun j hj => by
        rw [hW2, cell_of_row _ _ j _ _ _ (heap_alloc2_new wr _ _)]
        match j, hj with
        | 0, _ => rfl
        | 1, _ => rfl
        | 2, _ => rfl)
      have HB2 : Hid (Below w.heap.size w W2) := Lib.hid (by rw [hW2]; exact (HB.out.alloc HB.out.size _).alloc (by have := HB.out.size; simp; omega) _)
      have HO2 : Hid (W2.ownsRow w.heap.size 3 1 (.slice (some ⟨gd, 0, none⟩) (k + 1) capd) (k + 1) (intsV (depths (L.take k)))) := Lib.hid (by rw [hW2]; exact (HO.out.alloc _).alloc _)
      rw [← hW2]
      clear hW2 q0 q1 q2 q3 q4 q5 c0r
      go_loop [7, 9] (fun n i => ∃ j : Nat, j ≤ many K' ∧ i = .int .i64 j ∧ n = .int .i64 (mx (depths (L.take k)) ⟨K', S', N', A', B', C'⟩ j : Nat)) (fun _ i => many K' - (intOf i).toNat)
      case atStart => exact ⟨0, Nat.zero_le _, rfl, rfl⟩
      case round =>
        obtain ⟨j, hj, rfl, rfl⟩ := hrel
        by_cases hjt : j < many K'
        · have hj3 : j < 3 := by have := HM.out; omega
          have hc1 := HP.out j hj3
          obtain ⟨d1, d2⟩ := HF1.out j hjt
          obtain ⟨d, hd⟩ : ∃ d : Nat, prt A' B' C' j = (d : Int) := ⟨(prt A' B' C' j).toNat, by simp only at d1; omega⟩
          simp only at d1 d2
          rw [hd] at hc1 d1 d2
          have hdl : d < (depths (L.take k)).length := by rw [depths_length, List.length_take]; omega
          have hc2 : W2.cell? ⟨gd, d, none⟩ = some (.int .i64 ((depths (L.take k)).getD d 0 : Nat)) := by
            have := HO2.out.cells (g := gd) rfl d (.int .i64 ((depths (L.take k)).getD d 0 : Nat)) (by simp [intsV, List.getD, List.getElem?_eq_getElem hdl])
            have e : (⟨gd, 0, none⟩ : Addr).add d = ⟨gd, d, none⟩ := by unfold Addr.add; split <;> simp_all
            rwa [e] at this
          have Hm : Hid (mx (depths (L.take k)) ⟨K', S', N', A', B', C'⟩ (j + 1) = max (mx (depths (L.take k)) ⟨K', S', N', A', B', C'⟩ j) ((depths (L.take k)).getD d 0)) := Lib.hid (by simp only [mx]; rw [hd]; rfl)
          have d3 : (d : Int) < (k : Int) + 1 := by omega
          have Hjt := Lib.hid hjt
          clear hd hdl
          go_wp2
          go_round
          case rel => exact ⟨j + 1, by have := Hjt.out; omega, by go_num, by rw [Hm.out, List.getD_eq_getElem?_getD]; exact vmax _ _⟩
          case measure => have := Hjt.out; simp [intOf]; omega
        · obtain rfl : j = many K' := by omega
          clear hjt
          have hmx : mx (depths (L.take k)) ⟨K', S', N', A', B', C'⟩ (many K') ≤ k := mx_le _ _ k (depths_le L k (by omega)) _
          have hw2 : w.heap.size ≤ W2.heap.size := HB2.out.size
          obtain ⟨M, hM⟩ : ∃ M, M = mx (depths (L.take k)) ⟨K', S', N', A', B', C'⟩ (many K') := ⟨_, rfl⟩
          rw [← hM] at hmx ⊢
          have HMM := Lib.hid hM
          have hMb : (M : Int) ≤ 1048576 := by omega
          clear hM
          go_wp2_with (at_builtin; refine wpList_append_own _ rfl _ _ 45 rfl w.heap.size 3 i0 (.int .i64 0) 1 8 Try.underlying45 hi hz0 hz1 hz2 rfl (by decide) _ _ _ rfl (HO2.out.alloc _) ⟨W2.heap.size, 0, none⟩ 1 1 [.int .i64 ((M : Int) + 1)] rfl rfl (World.news_of_block (cs := #[.int .i64 ((M : Int) + 1)]) (t := 3) (fr := (0, 0)) (heap_alloc_new W2 _)) (by simp [Value.oneCell']) (by unfold maxLen; omega) (by omega) (by simp; omega) ?_; intro v' w3 hown' hgrow _)
          have O1 := Lib.hid hown'
          have O2 := Lib.hid hgrow
          clear hown' hgrow
          go_wp2_with fail
          go_roundw
          case rel => exact ⟨k + 1, by have := Hlt.out; omega, by go_num, Lib.hid (by
            have e : intsV (depths (L.take (k + 1))) = intsV (depths (L.take k)) ++ [.int .i64 ((M : Int) + 1)] := by
              rw [take_snocT L k hkL, depths_snoc, ← HU.out, stepD, ← HMM.out]
              simp [intsV]
            rw [e]; exact O1.out), Lib.hid (Below.grown (HB2.out.alloc HB2.out.size _) O2.out (Nat.le_trans HB2.out.size (by simp)) (fun x hx => by have hx' : (some gd : Option Nat) = some x := hx; injection hx' with hx'; rw [← hx']; exact hgd1))⟩
          case measure => have := Hlt.out; simp [intOf]; omega
    · obtain rfl : k = q := by omega
      clear hlt
      have hql : k < (depths (L.take k)).length := by rw [depths_length, List.length_take]; omega
      have hc2 : wr.cell? ⟨gd, k, none⟩ = some (.int .i64 ((depths (L.take k)).getD k 0 : Nat)) := by
        have := HO.out.cells (g := gd) rfl k (.int .i64 ((depths (L.take k)).getD k 0 : Nat)) (by simp [intsV, List.getD, List.getElem?_eq_getElem hql])
        have e : (⟨gd, 0, none⟩ : Addr).add k = ⟨gd, k, none⟩ := by unfold Addr.add; split <;> simp_all
        rwa [e] at this
      have hk4 : (k : Int) < (k : Int) + 1 := by omega
      clear hql
      go_wp2
      go_ret
      exact ⟨by simp, HB.out⟩

theorem depth_any {base g : Nat} {sv : Value} {L : List Tm} {most : Int} (w : World) (h : RS base g sv L most w) (hf : Fit L) (name : Int) :
    Calls Try.prog 17 #[.pointer (some ⟨g, 0, none⟩), .int .i64 name] w fun e w' => e = .returned (.int .i64 (depthOf L name)) ∧ Below w.heap.size w w' := by
  obtain ⟨a, cap, hsv, c0, c1⟩ := h.head
  by_cases h1 : name < 1
  · have e : depthOf L name = 0 := by unfold depthOf; rw [if_neg (by omega)]
    rw [e]; exact depth_low g name w h1
  by_cases h2 : (L.length : Int) < name
  · have e : depthOf L name = 0 := by unfold depthOf; rw [if_neg (by omega)]
    rw [e]; exact depth_high g L.length cap a name w c0 h2
  obtain ⟨q, rfl⟩ := Int.eq_ofNat_of_zero_le (show 0 ≤ name by omega)
  have e : depthOf L (q : Int) = ((depths (L.take q)).getD q 0 : Nat) := by unfold depthOf; rw [if_pos (by omega)]; simp
  rw [e]
  exact depth_in base g sv L most q w h hf (by omega) (by omega)
end Go.Proofs.Ytbmbglbbojacpaa
