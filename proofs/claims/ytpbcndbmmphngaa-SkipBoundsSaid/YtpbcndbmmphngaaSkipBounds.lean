/- SkipBounds: never more than four, rising, what is put is got, the others stay. No condition. -/
import Derived.Test.YtpbcndbmmphngaaRows
import Derived.Test.YtpbcndbmmphngaaEnI
import Derived.WalkKit
import Derived.ProofKit
import Derived.OpenShut
import Derived.ShutString
import Derived.ChangeOld
import Derived.Below
namespace Go.Proofs.Ytpbcndbmmphngaa.skipBounds
open Go.ChangeShapes Go.WideShapes Go.ChangeAt Go.RowKit
open Go.ChangeMaps (open_string shut_string)
open Go.Proofs.Ytpbcndbmmphngaa
set_option linter.unusedVariables false
set_option linter.unusedSimpArgs false
set_option maxRecDepth 20000

theorem own : ownKnob Try.prog.godebug = none := by kernel_rfl
theorem laidOut : laidOutB Try.prog = true := by kernel_rfl
theorem rise_lt {l : List En} (h : RiseE l) {j : Nat} (hj : j + 1 < l.length) : (l.getD j zeroE).ep < (l.getD (j + 1) zeroE).ep := by
  have := List.pairwise_iff_getElem.1 h j (j + 1) (by omega) hj (by omega)
  rw [List.getD_eq_getElem?_getD, List.getD_eq_getElem?_getD, List.getElem?_eq_getElem (by omega), List.getElem?_eq_getElem hj]
  exact this
set_option maxHeartbeats 4000000 in
set_option maxRecDepth 100000 in
theorem walk (a0 : Option Addr) (len0 cap0 : Nat) (Z0 : Nat → Nat → Int) (w : World) (w0 : Arrs .u8 2 w a0 len0 cap0 Z0) :
    Calls Try.prog 4 #[.slice a0 len0 cap0] w fun e w' => e = .returned (.bool true) ∧ Below w.heap.size w w' := by
  have hm0 : len0 ≤ 9223372036854775807 := by have h1 := w0.1; have h2 := w0.2.1; unfold maxLen at h1; omega
  have HA := Lib.hid w0
  have hg := guardE
  have HC := Lib.hid ((Bx.start w).box #[.slice none 0 0] 26)
  have HB : Hid (w.heap.size ≤ w.heap.size) := Lib.hid (Nat.le_refl _)
  clear w0
  go_enter Try.func4, Try.ntmps4
  go_upto_region 2 with fail
  generalize hwd : (w.alloc (.cells #[.slice none 0 0] 26 : Obj)) = wa at HC ⊢
  obtain ⟨B, hB1⟩ : ∃ B, w.heap.size = B := ⟨_, rfl⟩
  have HC : Hid (Bx w ([] ++ [((B, (.cells #[.slice none 0 0] 26 (0, 0) : Obj)) : Nat × Obj)]) wa) := Lib.hid (by have := HC.out; rw [hB1] at this; exact this)
  replace HB : Hid (w.heap.size ≤ B) := Lib.hid (by omega)
  rw [show w.heap.size = B from hB1]
  clear hwd
  go_wp2_with fail
  go_loopg [4] 40 (fun gk s6 wr => ∃ (i : Nat) (a : Option Addr) (n cap : Nat) (es : List En) (rs : List (Nat × Obj)), i + gk = 40 ∧ i ≤ len0 ∧ s6 = .int .i64 (i : Nat) ∧ Hid (OkE es) ∧ Hid (n = es.length) ∧ Hid (Bx w (rs ++ [((B, (.cells #[.slice a n cap] 26 (0, 0) : Obj)) : Nat × Obj)]) wr) ∧ Hid (∀ k o, (k, o) ∈ rs → k ≠ B) ∧ Hid (∀ u : World, (∀ k o, (k, o) ∈ rs → u.heap[k]? = some o) → RowE u a cap es))
  case atStart => exact ⟨0, none, 0, 0, [], [], rfl, Nat.zero_le _, rfl, Lib.hid OkE.nil, Lib.hid rfl, HC, Lib.hid (fun k o q => by simp at q), Lib.hid (fun u _ => RowE.none u)⟩
  case round =>
    clear HC
    obtain ⟨i, a, n, cap, es, rs0, hi, hil, rfl, HOK, HN, HC, HDX, HR0⟩ := hrel
    obtain ⟨g0, hg0⟩ : ∃ g0, g0 = gk := ⟨_, rfl⟩
    subst hg0
    by_cases h4 : i < len0 ∧ i < 40
    · obtain ⟨h1, h2⟩ := h4
      obtain ⟨_, _, b0, o0, hz⟩ := HA.out
      obtain ⟨ha0, hz2⟩ := hz i h1
      clear hz
      obtain ⟨hc0, hv0⟩ := hz2 0 (by decide)
      obtain ⟨hc1, hv1⟩ := hz2 1 (by decide)
      clear hz2
      subst ha0
      obtain ⟨p0, p1⟩ := Go.bounds_u8 hv0
      obtain ⟨p2, p3⟩ := Go.bounds_u8 hv1
      obtain ⟨X, hX⟩ := Int.eq_ofNat_of_zero_le p0
      obtain ⟨Y, hY⟩ := Int.eq_ofNat_of_zero_le p2
      rw [hX] at hc0 p1
      rw [hY] at hc1 p3
      rw [Nat.add_zero] at hc0
      have HCELL : Hid (∀ W, Below w.heap.size w W → W.cell? ⟨b0, o0 + i * 2, none⟩ = some (.int .u8 (X : Int)) ∧ W.cell? ⟨b0, o0 + i * 2 + 1, none⟩ = some (.int .u8 (Y : Int))) := Lib.hid (fun W hb => ⟨(hb.cell (block_lt_of_cell hc0)).trans hc0, (hb.cell (block_lt_of_cell hc1)).trans hc1⟩)
      clear hc0 hc1
      obtain ⟨R, hR⟩ : ∃ R, X % 12 = R := ⟨_, rfl⟩
      have x1 : (X : Int) % 12 = (R : Int) := by rw [← hR]; simp
      have x2 : (X : Int).tmod 12 = (R : Int) := by rw [Int.tmod_eq_emod_of_nonneg (by omega)]; exact x1
      have xb : (R : Int) ≤ 11 := by omega
      have x3 : IntKind.u8.wrap (R : Int) = (R : Int) := by simp [IntKind.wrap, IntKind.signed, IntKind.bits]; omega
      have x4 : IntKind.i64.wrap (R : Int) = (R : Int) := by simp [IntKind.wrap, IntKind.signed, IntKind.bits]; omega
      have bX : (X : Int) ≤ 255 := p1
      have bY : (Y : Int) ≤ 255 := p3
      have yw : IntKind.i64.wrap (Y : Int) = (Y : Int) := by simp [IntKind.wrap, IntKind.signed, IntKind.bits]; omega
      have i1 : (i : Int) < (len0 : Int) := by omega
      have i2 : (i : Int) < 40 := by omega
      have i0 : (0 : Int) ≤ (i : Int) := by omega
      have hbm := bounds_math HOK.out ⟨(R : Int), (Y : Int), 0, 0⟩
      obtain ⟨gs, g, is, hpe⟩ : ∃ gs g is, putE es ⟨(R : Int), (Y : Int), 0, 0⟩ = (gs, g, is) := ⟨_, _, _, rfl⟩
      obtain ⟨g1, g2, g3, g4⟩ := g
      have HPE := Lib.hid hpe
      have HOK2 : Hid (OkE gs) := Lib.hid (by have := HOK.out.put ⟨(R : Int), (Y : Int), 0, 0⟩; rw [hpe] at this; exact this)
      rw [hpe] at hbm
      dsimp only at hbm
      obtain ⟨hb1, hbi, hbj, hbn, hbe⟩ := hbm
      have HBI := Lib.hid hbi
      have HBJ := Lib.hid hbj
      have HBN := Lib.hid hbn
      have HBE := Lib.hid hbe
      obtain ⟨m2, hm2⟩ : ∃ m2, gs.length = m2 := ⟨_, rfl⟩
      have HM2 := Lib.hid hm2
      have b4 : (m2 : Int) ≤ 4 := by omega
      have b5 : decide ((4 : Int) < (m2 : Int)) = false := decide_eq_false (by omega)
      have b6 : decide (4 < m2) = false := decide_eq_false (by omega)
      have HI9 : Hid (i < len0 ∧ i < 40 ∧ i + g0 = 40) := Lib.hid ⟨h1, h2, by omega⟩
      clear hX hY hv0 hv1 p0 p1 p2 p3 hR hpe hm2 hi hil hb1 hbi hbj hbn hbe
      go_upto_region 5 with fail
      have HBW : Hid (B < wr.heap.size) := Lib.hid (HC.out.klt (k := B) (o := (.cells #[.slice a n cap] 26 (0, 0) : Obj)) (by simp))
      obtain ⟨BS, hM, hB⟩ : ∃ BS, (((B, (.cells #[.slice a n cap] 26 (0, 0) : Obj)) : Nat × Obj) ∈ BS ∧ (∀ k o, (k, o) ∈ rs0 → (k, o) ∈ BS)) ∧ Bx w BS wr := ⟨_, ⟨by simp, fun k o q => by simp [q]⟩, HC.out⟩
      have HM := Lib.hid hM
      have HCK := Lib.hid hB
      clear hM hB HC
      go_cut [5] from 16 to 157 (fun s5 wx => ∃ (E : Nat), s5 = .pointer (some ⟨E, 0, none⟩) ∧ Hid (Bx w (((E, (.cells #[.int .i64 (R : Int), .int .i64 (Y : Int), .int .u64 0, .int .u64 0] 33 (0, 0) : Obj)) : Nat × Obj) :: BS) wx) ∧ Hid (wr.heap.size ≤ E))
      case first =>
        refine wp_region_held_drew (S := Bx w BS) (by kernel_rfl) (HCK.out.below (drew_b wr)) (fun hHeld => ?_)
        have HC := Lib.hid hHeld
        have HW : Hid (wr.heap.size ≤ wr.drew.heap.size) := Lib.hid (by simp)
        refine wpAnyH_take (i := 0) (oi := ?o90101) (v := ?v90101) ?i90101 (by kernel_rfl) (by kernel_rfl) (by kernel_rfl) ?q90101 (Or.inl ⟨?w90101, ?y90101⟩) (by assumption) ?r90101
        case' i90101 => simp only [List.getElem?_toArray, List.getElem?_cons_succ, List.getElem?_cons_zero]
        case i90101 => rfl
        case q90101 => exact fun _ _ _ h => h
        case w90101 => kernel_rfl
        case y90101 => (intro W hSw; go_simp) <;> with_reducible rfl
        try simp only [Act.put, List.setIfInBounds_toArray, List.set_cons_zero, List.set_cons_succ]
        refine wpAnyH_take (i := 1) (oi := ?o90102) (v := ?v90102) ?i90102 (by kernel_rfl) (by kernel_rfl) (by kernel_rfl) ?q90102 (Or.inl ⟨?w90102, ?y90102⟩) (by assumption) ?r90102
        case' i90102 => simp only [List.getElem?_toArray, List.getElem?_cons_succ, List.getElem?_cons_zero]
        case i90102 => rfl
        case q90102 => exact fun _ _ _ h => h
        case w90102 => kernel_rfl
        case y90102 => (intro W hSw; go_simp) <;> with_reducible rfl
        try simp only [Act.put, List.setIfInBounds_toArray, List.set_cons_zero, List.set_cons_succ]
        refine wpAnyH_take (i := 2) (oi := ?o90103) (v := ?v90103) ?i90103 (by kernel_rfl) (by kernel_rfl) (by kernel_rfl) ?q90103 (Or.inl ⟨?w90103, ?y90103⟩) (by assumption) ?r90103
        case' i90103 => simp only [List.getElem?_toArray, List.getElem?_cons_succ, List.getElem?_cons_zero]
        case i90103 => rfl
        case q90103 => exact fun _ _ _ h => h
        case w90103 => kernel_rfl
        case y90103 => (intro W hSw; go_simp) <;> with_reducible rfl
        try simp only [Act.put, List.setIfInBounds_toArray, List.set_cons_zero, List.set_cons_succ]
        refine wpAnyH_take (i := 3) (oi := ?o90104) (v := ?v90104) ?i90104 (by kernel_rfl) (by kernel_rfl) (by kernel_rfl) ?q90104 (Or.inl ⟨?w90104, ?y90104⟩) (by assumption) ?r90104
        case' i90104 => simp only [List.getElem?_toArray, List.getElem?_cons_succ, List.getElem?_cons_zero]
        case i90104 => rfl
        case q90104 => exact fun _ _ _ h => h
        case w90104 => kernel_rfl
        case y90104 => (intro W hSw; go_simp) <;> with_reducible rfl
        try simp only [Act.put, List.setIfInBounds_toArray, List.set_cons_zero, List.set_cons_succ]
        refine wpAnyH_take (i := 4) (oi := ?o90105) (v := ?v90105) ?i90105 (by kernel_rfl) (by kernel_rfl) (by kernel_rfl) ?q90105 (Or.inl ⟨?w90105, ?y90105⟩) (by assumption) ?r90105
        case' i90105 => simp only [List.getElem?_toArray, List.getElem?_cons_succ, List.getElem?_cons_zero]
        case i90105 => rfl
        case q90105 => exact fun _ _ _ h => h
        case w90105 => kernel_rfl
        case y90105 => (intro W hSw; obtain ⟨k0, k1⟩ := HCELL.out _ hSw.low; go_simp) <;> with_reducible rfl
        try simp only [Act.put, List.setIfInBounds_toArray, List.set_cons_zero, List.set_cons_succ]
        refine wpAnyH_take (i := 5) (oi := ?o90106) (v := ?v90106) ?i90106 (by kernel_rfl) (by kernel_rfl) (by kernel_rfl) ?q90106 (Or.inl ⟨?w90106, ?y90106⟩) (by assumption) ?r90106
        case' i90106 => simp only [List.getElem?_toArray, List.getElem?_cons_succ, List.getElem?_cons_zero]
        case i90106 => rfl
        case q90106 => exact fun _ _ _ h => h
        case w90106 => kernel_rfl
        case y90106 => (intro W hSw; go_simp) <;> with_reducible rfl
        try simp only [Act.put, List.setIfInBounds_toArray, List.set_cons_zero, List.set_cons_succ]
        refine wpAnyH_take (i := 6) (oi := ?o90107) (v := ?v90107) ?i90107 (by kernel_rfl) (by kernel_rfl) (by kernel_rfl) ?q90107 (Or.inl ⟨?w90107, ?y90107⟩) (by assumption) ?r90107
        case' i90107 => simp only [List.getElem?_toArray, List.getElem?_cons_succ, List.getElem?_cons_zero]
        case i90107 => rfl
        case q90107 => exact fun _ _ _ h => h
        case w90107 => kernel_rfl
        case y90107 => (intro W hSw; go_simp) <;> with_reducible rfl
        try simp only [Act.put, List.setIfInBounds_toArray, List.set_cons_zero, List.set_cons_succ]
        refine wpAnyH_take (i := 7) (oi := ?o90108) (v := ?v90108) ?i90108 (by kernel_rfl) (by kernel_rfl) (by kernel_rfl) ?q90108 (Or.inl ⟨?w90108, ?y90108⟩) (by assumption) ?r90108
        case' i90108 => simp only [List.getElem?_toArray, List.getElem?_cons_succ, List.getElem?_cons_zero]
        case i90108 => rfl
        case q90108 => exact fun _ _ _ h => h
        case w90108 => kernel_rfl
        case y90108 => (intro W hSw; go_simp) <;> with_reducible rfl
        try simp only [Act.put, List.setIfInBounds_toArray, List.set_cons_zero, List.set_cons_succ]
        refine wpAnyH_take (i := 8) (oi := ?o90109) (v := ?v90109) ?i90109 (by kernel_rfl) (by kernel_rfl) (by kernel_rfl) ?q90109 (Or.inl ⟨?w90109, ?y90109⟩) (by assumption) ?r90109
        case' i90109 => simp only [List.getElem?_toArray, List.getElem?_cons_succ, List.getElem?_cons_zero]
        case i90109 => rfl
        case q90109 => exact fun _ _ _ h => h
        case w90109 => kernel_rfl
        case y90109 => (intro W hSw; go_simp) <;> with_reducible rfl
        try simp only [Act.put, List.setIfInBounds_toArray, List.set_cons_zero, List.set_cons_succ]
        refine wpAnyH_take (i := 9) (oi := ?o90110) (v := ?v90110) ?i90110 (by kernel_rfl) (by kernel_rfl) (by kernel_rfl) ?q90110 (Or.inl ⟨?w90110, ?y90110⟩) (by assumption) ?r90110
        case' i90110 => simp only [List.getElem?_toArray, List.getElem?_cons_succ, List.getElem?_cons_zero]
        case i90110 => rfl
        case q90110 => exact fun _ _ _ h => h
        case w90110 => kernel_rfl
        case y90110 => (intro W hSw; go_simp) <;> with_reducible rfl
        try simp only [Act.put, List.setIfInBounds_toArray, List.set_cons_zero, List.set_cons_succ]
        refine wpAnyH_take (i := 10) (oi := ?o90111) (v := ?v90111) ?i90111 (by kernel_rfl) (by kernel_rfl) (by kernel_rfl) ?q90111 (Or.inl ⟨?w90111, ?y90111⟩) (by assumption) ?r90111
        case' i90111 => simp only [List.getElem?_toArray, List.getElem?_cons_succ, List.getElem?_cons_zero]
        case i90111 => rfl
        case q90111 => exact fun _ _ _ h => h
        case w90111 => kernel_rfl
        case y90111 => (intro W hSw; go_simp) <;> with_reducible rfl
        try simp only [Act.put, List.setIfInBounds_toArray, List.set_cons_zero, List.set_cons_succ]
        refine wpAnyH_take (i := 11) (oi := ?o90112) (v := ?v90112) ?i90112 (by kernel_rfl) (by kernel_rfl) (by kernel_rfl) ?q90112 (Or.inl ⟨?w90112, ?y90112⟩) (by assumption) ?r90112
        case' i90112 => simp only [List.getElem?_toArray, List.getElem?_cons_succ, List.getElem?_cons_zero]
        case i90112 => rfl
        case q90112 => exact fun _ _ _ h => h
        case w90112 => kernel_rfl
        case y90112 => (intro W hSw; obtain ⟨k0, k1⟩ := HCELL.out _ hSw.low; go_simp) <;> with_reducible rfl
        try simp only [Act.put, List.setIfInBounds_toArray, List.set_cons_zero, List.set_cons_succ]
        refine wpAnyH_take (i := 12) (oi := ?o90113) (v := ?v90113) ?i90113 (by kernel_rfl) (by kernel_rfl) (by kernel_rfl) ?q90113 (Or.inl ⟨?w90113, ?y90113⟩) (by assumption) ?r90113
        case' i90113 => simp only [List.getElem?_toArray, List.getElem?_cons_succ, List.getElem?_cons_zero]
        case i90113 => rfl
        case q90113 => exact fun _ _ _ h => h
        case w90113 => kernel_rfl
        case y90113 => (intro W hSw; go_simp) <;> with_reducible rfl
        try simp only [Act.put, List.setIfInBounds_toArray, List.set_cons_zero, List.set_cons_succ]
        refine wpAnyH_take (i := 13) (oi := ?o90114) (v := ?v90114) ?i90114 (by kernel_rfl) (by kernel_rfl) (by kernel_rfl) ?q90114 (Or.inl ⟨?w90114, ?y90114⟩) (by assumption) ?r90114
        case' i90114 => simp only [List.getElem?_toArray, List.getElem?_cons_succ, List.getElem?_cons_zero]
        case i90114 => rfl
        case q90114 => exact fun _ _ _ h => h
        case w90114 => kernel_rfl
        case y90114 => (intro W hSw; go_simp) <;> with_reducible rfl
        try simp only [Act.put, List.setIfInBounds_toArray, List.set_cons_zero, List.set_cons_succ]
        generalize hwS : wr.drew = wS at hHeld HC HW ⊢
        clear hwS
        refine wpAnyH_ready (rs := [14]) (by kernel_rfl) (by simp) ?_
        refine AllReadyH.cons (o := ?t9_1o0) ?t9_1i0 (fun K' hK => ?_) AllReadyH.nil
        case' t9_1i0 => simp only [List.getElem?_toArray, List.getElem?_cons_succ, List.getElem?_cons_zero]
        case t9_1i0 => rfl
        go_simp
        replace HC := Lib.hid (HC.out.box #[.int .i64 0, .int .i64 0, .int .u64 0, .int .u64 0] 33)
        have HS : Hid (wr.heap.size ≤ wS.heap.size ∧ wS.heap.size < (wS.alloc (.cells #[.int .i64 0, .int .i64 0, .int .u64 0, .int .u64 0] 33 : Obj)).heap.size) := Lib.hid ⟨HW.out, by simp⟩
        refine hK.out _ _ (HC.out.less (fun x hx => by simp [hx])) (fun hHeld => ?_)
        clear hK K'
        try simp only [Act.put, List.setIfInBounds_toArray, List.set_cons_zero, List.set_cons_succ]
        generalize hwd : (wS.alloc (.cells #[.int .i64 0, .int .i64 0, .int .u64 0, .int .u64 0] 33 : Obj)) = w501 at hHeld HC HS ⊢
        generalize hwe : wS.heap.size = E at HC HS ⊢
        have HBE : Hid (wr.heap.size ≤ E) := Lib.hid HS.out.1
        have HLE : Hid (E < w501.heap.size) := Lib.hid HS.out.2
        replace HW : Hid (wr.heap.size ≤ w501.heap.size) := Lib.hid (by have h1 := HS.out.1; have h2 := HS.out.2; omega)
        clear hwd hwe HS
        replace HC : Hid (Bx w (((E, (.cells #[.int .i64 0, .int .i64 0, .int .u64 0, .int .u64 0] 33 (0, 0) : Obj)) : Nat × Obj) :: BS) w501) := Lib.hid (HC.out.less (fun x hx => by simp only [List.mem_cons, List.mem_append] at hx ⊢; rcases hx with h | h <;> simp [h]))
        refine wpAnyH_ready (rs := [15]) (by kernel_rfl) (by simp) ?_
        refine AllReadyH.cons (o := ?t9_2o0) ?t9_2i0 (fun K' hK => ?_) AllReadyH.nil
        case' t9_2i0 => simp only [List.getElem?_toArray, List.getElem?_cons_succ, List.getElem?_cons_zero]
        case t9_2i0 => rfl
        obtain ⟨z0, z1, z2, z3, z4, z5, z6, z7⟩ := cells4 (HC.out.kept E (.cells #[.int .i64 0, .int .i64 0, .int .u64 0, .int .u64 0] 33 (0, 0) : Obj) (by simp))
        go_simp
        clear z0 z1 z2 z3 z4 z5 z6 z7
        replace HC := Lib.hid (HC.out.set4 (B := E) (x := .int .i64 0) (y := .int .i64 0) (z := .int .u64 0) (q := .int .u64 0) (T := 33) (by simp) (Nat.le_trans HCK.out.low.size HBE.out) (.int .i64 (R : Int)) (.int .i64 (Y : Int)) (.int .u64 0) (.int .u64 0) (bs' := ((E, (.cells #[.int .i64 (R : Int), .int .i64 (Y : Int), .int .u64 0, .int .u64 0] 33 (0, 0) : Obj)) : Nat × Obj) :: BS) (fun z hz => by
          rcases List.mem_cons.1 hz with e | e
          · exact .inl e
          ·
            exact .inr ⟨by simp [e], fun e2 => by have h1 := HCK.out.klt (k := z.1) (o := z.2) e; have h2 := HBE.out; omega⟩))
        refine hK.out _ _ (HC.out.less (fun x hx => by simp [hx])) (fun hHeld => ?_)
        clear hK K'
        try simp only [Act.put, List.setIfInBounds_toArray, List.set_cons_zero, List.set_cons_succ]
        refine wpAnyH_done (by kernel_rfl) ?_ _
        clear hHeld
        go_wp2_with fail
        go_meet
        exact ⟨E, rfl, HC, HBE⟩
      case rest =>
        obtain ⟨wx, hwx⟩ : ∃ u, u = wc := ⟨_, rfl⟩
        subst hwx
        obtain ⟨E, rfl, HC, HBEE⟩ := hcut
        replace HBW : Hid (B < wx.heap.size) := Lib.hid (HC.out.klt (o := (.cells #[.slice a n cap] 26 (0, 0) : Obj)) (by simp [HM.out.1]))
        clear HCK
        cases is with
        | true =>
          obtain ⟨hb2, hb3⟩ := HBI.out rfl
          have hm4 : 4 = m2 := by rw [← HM2.out]; exact hb3.symm
          subst hm4
          have y1 : decide ((R : Int) < g1) = false := decide_eq_false (by omega)
          obtain ⟨c0, c1⟩ := cell1 (HC.out.kept B (.cells #[.slice a n cap] 26 (0, 0) : Obj) (by simp [HM.out.1]))
          obtain ⟨d0, d1, d2, d3, d4, d5, d6, d7⟩ := cells4 (HC.out.kept E (.cells #[.int .i64 (R : Int), .int .i64 (Y : Int), .int .u64 0, .int .u64 0] 33 (0, 0) : Obj) (by simp))
          go_wp2_with fail
          clear c0 c1 d0 d1 d2 d3 d4 d5 d6 d7
          refine (HC.out.pput (fs := es) HN.out (HR0.out _ (fun k o q => HC.out.kept k o (by simp [HM.out.2 k o q]))) HOK.out (gs := gs) (ep := (R : Int)) (key := (Y : Int)) (nx := 0) (bt := 0) (gp := g1) (gk := g2) (gn := g3) (gb := g4) (is := true) HPE.out (m := 4) HM2.out).mono ?_
          rintro e w21 ⟨rs1, a1, c1, rfl, hc, hr, hd, hz⟩
          have HD1 : Hid (∀ k o, (k, o) ∈ rs1 → wx.heap.size ≤ k) := Lib.hid hd
          have HR1 := Lib.hid hr
          replace HC := Lib.hid hc
          clear hc hr hd hz
          replace HC := Lib.hid (HC.out.box #[.slice a1 4 c1] 26)
          replace HC := Lib.hid (HC.out.box #[.int .i64 g1, .int .i64 g2, .int .u64 g3, .int .u64 g4] 33)
          rw [World.size_alloc] at HC
          go_upto_region 7 with fail
          generalize hwd : ((w21.alloc (.cells #[.slice a1 4 c1] 26 : Obj)).alloc (.cells #[.int .i64 g1, .int .i64 g2, .int .u64 g3, .int .u64 g4] 33 : Obj)) = w22 at HC ⊢
          generalize hx1 : w21.heap.size + 1 = Xg at HC ⊢
          generalize hx2 : w21.heap.size = Xd at HC ⊢
          clear hwd hx1 hx2
          have HM0 := HM
          clear HM
          obtain ⟨BS2, hM, hB⟩ : ∃ BS2, (((B, (.cells #[.slice a n cap] 26 (0, 0) : Obj)) : Nat × Obj) ∈ BS2 ∧ ((Xd, (.cells #[.slice a1 4 c1] 26 (0, 0) : Obj)) : Nat × Obj) ∈ BS2 ∧ ((Xg, (.cells #[.int .i64 g1, .int .i64 g2, .int .u64 g3, .int .u64 g4] 33 (0, 0) : Obj)) : Nat × Obj) ∈ BS2 ∧ ((E, (.cells #[.int .i64 (R : Int), .int .i64 (Y : Int), .int .u64 0, .int .u64 0] 33 (0, 0) : Obj)) : Nat × Obj) ∈ BS2 ∧ (∀ k o, (k, o) ∈ rs0 → (k, o) ∈ BS2) ∧ (∀ k o, (k, o) ∈ rs1 → (k, o) ∈ BS2)) ∧ Bx w BS2 w22 := ⟨_, ⟨by simp [HM0.out.1], by simp, by simp, by simp, fun k o q => by simp [HM0.out.2 k o q], fun k o q => by simp [q]⟩, HC.out⟩
          have HM := Lib.hid hM
          replace HC := Lib.hid hB
          clear hM hB HM0
          obtain ⟨zc0, zc1⟩ := cell1 (HC.out.kept Xd (.cells #[.slice a1 4 c1] 26 (0, 0) : Obj) HM.out.2.1)
          obtain ⟨zd0, zd1, zd2, zd3, zd4, zd5, zd6, zd7⟩ := cells4 (HC.out.kept Xg (.cells #[.int .i64 g1, .int .i64 g2, .int .u64 g3, .int .u64 g4] 33 (0, 0) : Obj) HM.out.2.2.1)
          obtain ⟨ze0, ze1, ze2, ze3, ze4, ze5, ze6, ze7⟩ := cells4 (HC.out.kept E (.cells #[.int .i64 (R : Int), .int .i64 (Y : Int), .int .u64 0, .int .u64 0] 33 (0, 0) : Obj) HM.out.2.2.2.1)
          go_wp2_with fail
          clear zc0 zc1 zd0 zd1 zd2 zd3 zd4 zd5 zd6 zd7 ze0 ze1 ze2 ze3 ze4 ze5 ze6 ze7
          go_loopg [9] 12 (fun gk sk wr => ∃ (kk : Nat), kk + gk = 12 ∧ sk = .int .i64 (kk : Nat) ∧ Hid (Bx w BS2 wr))
          case atStart => exact ⟨0, rfl, rfl, HC⟩
          case round =>
            clear HC
            obtain ⟨kk, hk, rfl, HC⟩ := hrel
            by_cases h12 : kk < 12
            · obtain ⟨x, was, hga⟩ : ∃ x was, getE es (kk : Int) = (x, was) := ⟨_, _, rfl⟩
              obtain ⟨p1, p2, p3, p4⟩ := x
              obtain ⟨x, now, hgb⟩ : ∃ x now, getE gs (kk : Int) = (x, now) := ⟨_, _, rfl⟩
              obtain ⟨q1, q2, q3, q4⟩ := x
              have HGA := Lib.hid hga
              have HGB := Lib.hid hgb
              have HK9 : Hid (kk < 12 ∧ kk + gk = 12) := Lib.hid ⟨h12, hk⟩
              have k0 : (kk : Int) < 12 := by omega
              clear hga hgb hk h12
              obtain ⟨c0, c1⟩ := cell1 (HC.out.kept B (.cells #[.slice a n cap] 26 (0, 0) : Obj) HM.out.1)
              go_wp2_with fail
              clear c0 c1
              refine (HC.out.pget (fs := es) HN.out (HR0.out _ (fun k o q => HC.out.kept k o (HM.out.2.2.2.2.1 k o q))) HOK.out (K := (kk : Int)) (gp := p1) (gk := p2) (gn := p3) (gb := p4) (is := was) HGA.out).mono ?_
              rintro e w41 ⟨rfl, hc, hz⟩
              replace HC := Lib.hid hc
              clear hc hz
              replace HC := Lib.hid (HC.out.box #[.int .i64 p1, .int .i64 p2, .int .u64 p3, .int .u64 p4] 33)
              obtain ⟨c0, c1⟩ := cell1 (HC.out.kept Xd (.cells #[.slice a1 4 c1] 26 (0, 0) : Obj) (by simp [HM.out.2.1]))
              go_wp2_with fail
              clear c0 c1
              refine (HC.out.pget (fs := gs) HM2.out.symm (HR1.out _ (fun k o q => HC.out.kept k o (by simp [HM.out.2.2.2.2.2 k o q]))) HOK2.out (K := (kk : Int)) (gp := q1) (gk := q2) (gn := q3) (gb := q4) (is := now) HGB.out).mono ?_
              rintro e w42 ⟨rfl, hc, hz⟩
              replace HC := Lib.hid hc
              clear hc hz
              replace HC := Lib.hid (HC.out.box #[.int .i64 q1, .int .i64 q2, .int .u64 q3, .int .u64 q4] 33)
              go_upto_region 14 with fail
              generalize hwd : (w42.alloc (.cells #[.int .i64 q1, .int .i64 q2, .int .u64 q3, .int .u64 q4] 33 : Obj)) = w43 at HC ⊢
              generalize hx1 : w42.heap.size = Xb at HC ⊢
              generalize hx2 : w41.heap.size = Xa at HC ⊢
              clear hwd hx1 hx2
              by_cases hkr : kk = R
              · obtain rfl : R = kk := hkr.symm
                have hbe := HBE.out
                cases now with
                | true =>
                  have k1 : ((R : Int) == (R : Int)) = true := by simp
                  have hd : decide ((⟨g1, g2, g3, g4⟩ : En) = ⟨(R : Int), (Y : Int), 0, 0⟩) = false := by
                    have := hbe.1
                    rw [HGB.out] at this
                    cases hdd : decide ((⟨g1, g2, g3, g4⟩ : En) = ⟨(R : Int), (Y : Int), 0, 0⟩) with
                    | false => rfl
                    | true => rw [hdd] at this; exact absurd this (by simp)
                  have heq := fun u => (show (binOp .eql 33 (.agg #[.int .i64 g1, .int .i64 g2, .int .u64 g3, .int .u64 g4]) (.agg #[.int .i64 (R : Int), .int .i64 (Y : Int), .int .u64 0, .int .u64 0])).run Try.prog u = .ok (.bool false) u by have := eqlE ⟨g1, g2, g3, g4⟩ ⟨(R : Int), (Y : Int), 0, 0⟩ u; rw [eqE_iff, hd] at this; exact this)
                  have hb4 : (⟨q1, q2, q3, q4⟩ : En) = ⟨(R : Int), (Y : Int), 0, 0⟩ := by have := hbe.2; rw [HGB.out] at this; exact this rfl
                  injection hb4 with hb1 hb2 hb3 hb4
                  subst hb1 hb2 hb3 hb4
                  have hne := fun u => (show (binOp .neq 33 (.agg #[.int .i64 (R : Int), .int .i64 (Y : Int), .int .u64 0, .int .u64 0]) (.agg #[.int .i64 (R : Int), .int .i64 (Y : Int), .int .u64 0, .int .u64 0])).run Try.prog u = .ok (.bool false) u by have := neqE ⟨(R : Int), (Y : Int), 0, 0⟩ ⟨(R : Int), (Y : Int), 0, 0⟩ u; rw [eqE_self] at this; exact this)
                  clear hd hbe
                  obtain ⟨ze0, ze1, ze2, ze3, ze4, ze5, ze6, ze7⟩ := cells4 (HC.out.kept E (.cells #[.int .i64 (R : Int), .int .i64 (Y : Int), .int .u64 0, .int .u64 0] 33 (0, 0) : Obj) (by simp [HM.out.2.2.2.1]))
                  obtain ⟨zg0, zg1, zg2, zg3, zg4, zg5, zg6, zg7⟩ := cells4 (HC.out.kept Xg (.cells #[.int .i64 g1, .int .i64 g2, .int .u64 g3, .int .u64 g4] 33 (0, 0) : Obj) (by simp [HM.out.2.2.1]))
                  obtain ⟨za0, za1, za2, za3, za4, za5, za6, za7⟩ := cells4 (HC.out.kept Xa (.cells #[.int .i64 p1, .int .i64 p2, .int .u64 p3, .int .u64 p4] 33 (0, 0) : Obj) (by simp))
                  obtain ⟨zb0, zb1, zb2, zb3, zb4, zb5, zb6, zb7⟩ := cells4 (HC.out.kept Xb (.cells #[.int .i64 (R : Int), .int .i64 (Y : Int), .int .u64 0, .int .u64 0] 33 (0, 0) : Obj) (by simp))
                  go_wp2_with fail
                  clear ze0 ze1 ze2 ze3 ze4 ze5 ze6 ze7 zg0 zg1 zg2 zg3 zg4 zg5 zg6 zg7 za0 za1 za2 za3 za4 za5 za6 za7 zb0 zb1 zb2 zb3 zb4 zb5 zb6 zb7
                  go_roundg (gk - 1)
                  case rel => exact ⟨R + 1, by have := HK9.out; omega, by have := HK9.out; go_num, Lib.hid (HC.out.less (fun x hx => by simp [hx]))⟩
                  case measure => have := HK9.out; omega
                | false =>
                  have k1 : ((R : Int) == (R : Int)) = true := by simp
                  have hd : decide ((⟨g1, g2, g3, g4⟩ : En) = ⟨(R : Int), (Y : Int), 0, 0⟩) = true := by
                    have := hbe.1
                    rw [HGB.out] at this
                    cases hdd : decide ((⟨g1, g2, g3, g4⟩ : En) = ⟨(R : Int), (Y : Int), 0, 0⟩) with
                    | true => rfl
                    | false => rw [hdd] at this; exact absurd this (by simp)
                  have heq := fun u => (show (binOp .eql 33 (.agg #[.int .i64 g1, .int .i64 g2, .int .u64 g3, .int .u64 g4]) (.agg #[.int .i64 (R : Int), .int .i64 (Y : Int), .int .u64 0, .int .u64 0])).run Try.prog u = .ok (.bool true) u by have := eqlE ⟨g1, g2, g3, g4⟩ ⟨(R : Int), (Y : Int), 0, 0⟩ u; rw [eqE_iff, hd] at this; exact this)
                  clear hd hbe
                  obtain ⟨ze0, ze1, ze2, ze3, ze4, ze5, ze6, ze7⟩ := cells4 (HC.out.kept E (.cells #[.int .i64 (R : Int), .int .i64 (Y : Int), .int .u64 0, .int .u64 0] 33 (0, 0) : Obj) (by simp [HM.out.2.2.2.1]))
                  obtain ⟨zg0, zg1, zg2, zg3, zg4, zg5, zg6, zg7⟩ := cells4 (HC.out.kept Xg (.cells #[.int .i64 g1, .int .i64 g2, .int .u64 g3, .int .u64 g4] 33 (0, 0) : Obj) (by simp [HM.out.2.2.1]))
                  obtain ⟨za0, za1, za2, za3, za4, za5, za6, za7⟩ := cells4 (HC.out.kept Xa (.cells #[.int .i64 p1, .int .i64 p2, .int .u64 p3, .int .u64 p4] 33 (0, 0) : Obj) (by simp))
                  obtain ⟨zb0, zb1, zb2, zb3, zb4, zb5, zb6, zb7⟩ := cells4 (HC.out.kept Xb (.cells #[.int .i64 q1, .int .i64 q2, .int .u64 q3, .int .u64 q4] 33 (0, 0) : Obj) (by simp))
                  go_wp2_with fail
                  clear ze0 ze1 ze2 ze3 ze4 ze5 ze6 ze7 zg0 zg1 zg2 zg3 zg4 zg5 zg6 zg7 za0 za1 za2 za3 za4 za5 za6 za7 zb0 zb1 zb2 zb3 zb4 zb5 zb6 zb7
                  go_roundg (gk - 1)
                  case rel => exact ⟨R + 1, by have := HK9.out; omega, by have := HK9.out; go_num, Lib.hid (HC.out.less (fun x hx => by simp [hx]))⟩
                  case measure => have := HK9.out; omega
              · have k1 : ((kk : Int) == (R : Int)) = false := by simp; omega
                have hki : (kk : Int) ≠ (R : Int) := by omega
                have hbn := HBN.out
                have hn1 : now = (was && !((g1 : Int) == (kk : Int))) := by have := (hbn (kk : Int) hki).1; rw [HGB.out, HGA.out] at this; simpa using this
                have hn2 : now = true → (⟨p1, p2, p3, p4⟩ : En) = ⟨q1, q2, q3, q4⟩ := by have := (hbn (kk : Int) hki).2; rw [HGB.out, HGA.out] at this; exact this
                cases was with
                | false =>
                  obtain rfl : now = false := by rw [hn1]; rfl
                  clear hn1 hn2 hbn
                  obtain ⟨ze0, ze1, ze2, ze3, ze4, ze5, ze6, ze7⟩ := cells4 (HC.out.kept E (.cells #[.int .i64 (R : Int), .int .i64 (Y : Int), .int .u64 0, .int .u64 0] 33 (0, 0) : Obj) (by simp [HM.out.2.2.2.1]))
                  obtain ⟨zg0, zg1, zg2, zg3, zg4, zg5, zg6, zg7⟩ := cells4 (HC.out.kept Xg (.cells #[.int .i64 g1, .int .i64 g2, .int .u64 g3, .int .u64 g4] 33 (0, 0) : Obj) (by simp [HM.out.2.2.1]))
                  obtain ⟨za0, za1, za2, za3, za4, za5, za6, za7⟩ := cells4 (HC.out.kept Xa (.cells #[.int .i64 p1, .int .i64 p2, .int .u64 p3, .int .u64 p4] 33 (0, 0) : Obj) (by simp))
                  obtain ⟨zb0, zb1, zb2, zb3, zb4, zb5, zb6, zb7⟩ := cells4 (HC.out.kept Xb (.cells #[.int .i64 q1, .int .i64 q2, .int .u64 q3, .int .u64 q4] 33 (0, 0) : Obj) (by simp))
                  go_wp2_with fail
                  clear ze0 ze1 ze2 ze3 ze4 ze5 ze6 ze7 zg0 zg1 zg2 zg3 zg4 zg5 zg6 zg7 za0 za1 za2 za3 za4 za5 za6 za7 zb0 zb1 zb2 zb3 zb4 zb5 zb6 zb7
                  go_roundg (gk - 1)
                  case rel => exact ⟨kk + 1, by have := HK9.out; omega, by have := HK9.out; go_num, Lib.hid (HC.out.less (fun x hx => by simp [hx]))⟩
                  case measure => have := HK9.out; omega
                | true =>
                  cases hs : ((g1 : Int) == (kk : Int)) with
                  | true =>
                    obtain rfl : now = false := by rw [hn1, hs]; rfl
                    clear hn1 hn2 hbn
                    obtain ⟨ze0, ze1, ze2, ze3, ze4, ze5, ze6, ze7⟩ := cells4 (HC.out.kept E (.cells #[.int .i64 (R : Int), .int .i64 (Y : Int), .int .u64 0, .int .u64 0] 33 (0, 0) : Obj) (by simp [HM.out.2.2.2.1]))
                    obtain ⟨zg0, zg1, zg2, zg3, zg4, zg5, zg6, zg7⟩ := cells4 (HC.out.kept Xg (.cells #[.int .i64 g1, .int .i64 g2, .int .u64 g3, .int .u64 g4] 33 (0, 0) : Obj) (by simp [HM.out.2.2.1]))
                    obtain ⟨za0, za1, za2, za3, za4, za5, za6, za7⟩ := cells4 (HC.out.kept Xa (.cells #[.int .i64 p1, .int .i64 p2, .int .u64 p3, .int .u64 p4] 33 (0, 0) : Obj) (by simp))
                    obtain ⟨zb0, zb1, zb2, zb3, zb4, zb5, zb6, zb7⟩ := cells4 (HC.out.kept Xb (.cells #[.int .i64 q1, .int .i64 q2, .int .u64 q3, .int .u64 q4] 33 (0, 0) : Obj) (by simp))
                    go_wp2_with fail
                    clear ze0 ze1 ze2 ze3 ze4 ze5 ze6 ze7 zg0 zg1 zg2 zg3 zg4 zg5 zg6 zg7 za0 za1 za2 za3 za4 za5 za6 za7 zb0 zb1 zb2 zb3 zb4 zb5 zb6 zb7
                    go_roundg (gk - 1)
                    case rel => exact ⟨kk + 1, by have := HK9.out; omega, by have := HK9.out; go_num, Lib.hid (HC.out.less (fun x hx => by simp [hx]))⟩
                    case measure => have := HK9.out; omega
                  | false =>
                    obtain rfl : now = true := by rw [hn1, hs]; rfl
                    have hn3 := hn2 rfl
                    injection hn3 with hb1 hb2 hb3 hb4
                    subst hb1 hb2 hb3 hb4
                    have hne := fun u => (show (binOp .neq 33 (.agg #[.int .i64 p1, .int .i64 p2, .int .u64 p3, .int .u64 p4]) (.agg #[.int .i64 p1, .int .i64 p2, .int .u64 p3, .int .u64 p4])).run Try.prog u = .ok (.bool false) u by have := neqE ⟨p1, p2, p3, p4⟩ ⟨p1, p2, p3, p4⟩ u; rw [eqE_self] at this; exact this)
                    clear hn1 hn2 hbn
                    obtain ⟨ze0, ze1, ze2, ze3, ze4, ze5, ze6, ze7⟩ := cells4 (HC.out.kept E (.cells #[.int .i64 (R : Int), .int .i64 (Y : Int), .int .u64 0, .int .u64 0] 33 (0, 0) : Obj) (by simp [HM.out.2.2.2.1]))
                    obtain ⟨zg0, zg1, zg2, zg3, zg4, zg5, zg6, zg7⟩ := cells4 (HC.out.kept Xg (.cells #[.int .i64 g1, .int .i64 g2, .int .u64 g3, .int .u64 g4] 33 (0, 0) : Obj) (by simp [HM.out.2.2.1]))
                    obtain ⟨za0, za1, za2, za3, za4, za5, za6, za7⟩ := cells4 (HC.out.kept Xa (.cells #[.int .i64 p1, .int .i64 p2, .int .u64 p3, .int .u64 p4] 33 (0, 0) : Obj) (by simp))
                    obtain ⟨zb0, zb1, zb2, zb3, zb4, zb5, zb6, zb7⟩ := cells4 (HC.out.kept Xb (.cells #[.int .i64 p1, .int .i64 p2, .int .u64 p3, .int .u64 p4] 33 (0, 0) : Obj) (by simp))
                    go_wp2_with fail
                    clear ze0 ze1 ze2 ze3 ze4 ze5 ze6 ze7 zg0 zg1 zg2 zg3 zg4 zg5 zg6 zg7 za0 za1 za2 za3 za4 za5 za6 za7 zb0 zb1 zb2 zb3 zb4 zb5 zb6 zb7
                    go_roundg (gk - 1)
                    case rel => exact ⟨kk + 1, by have := HK9.out; omega, by have := HK9.out; go_num, Lib.hid (HC.out.less (fun x hx => by simp [hx]))⟩
                    case measure => have := HK9.out; omega
            · have hke : 12 = kk := by omega
              subst hke
              go_wp2_with fail
              go_loopg [14] (4 + 1) (fun gk sk wr => ∃ (kk : Nat), kk + gk = 4 + 1 ∧ sk = .int .i64 ((kk + 1 : Nat) : Int) ∧ Hid (Bx w BS2 wr))
              case atStart => exact ⟨0, by omega, rfl, HC⟩
              case round =>
                clear HC
                obtain ⟨kk, hk, rfl, HC⟩ := hrel
                obtain ⟨kj, hkj⟩ : ∃ kj, kk + 1 = kj := ⟨_, rfl⟩
                rw [hkj]
                obtain ⟨zc0, zc1⟩ := cell1 (HC.out.kept Xd (.cells #[.slice a1 4 c1] 26 (0, 0) : Obj) HM.out.2.1)
                by_cases hj : kj < 4
                · obtain ⟨b1, f1, hx1, r0, _, _, _⟩ := erow_cell (HR1.out wr (fun k o q => HC.out.kept k o (HM.out.2.2.2.2.2 k o q))) (j := kk) (by rw [HM2.out]; omega)
                  obtain ⟨b2, f2, hx2, s0, _, _, _⟩ := erow_cell (HR1.out wr (fun k o q => HC.out.kept k o (HM.out.2.2.2.2.2 k o q))) (j := kj) (by rw [HM2.out]; exact hj)
                  have hlt := rise_lt HOK2.out.1 (j := kk) (by rw [HM2.out]; omega)
                  rw [hkj] at hlt
                  subst hx1
                  injection hx2 with hx2
                  injection hx2 with hx2 hx3 hx4
                  subst hx2 hx3
                  generalize (gs.getD kk zeroE).ep = y1 at r0 hlt
                  generalize (gs.getD kj zeroE).ep = y2 at s0 hlt
                  have j1 : (kj : Int) < (4 : Int) := by omega
                  have j2 : (kj : Int) - 1 = (kk : Int) := by omega
                  have j3 : (kk : Int) < (4 : Int) := by omega
                  have j4 : IntKind.i64.wrap (kk : Int) = (kk : Int) := by simp [IntKind.wrap, IntKind.signed, IntKind.bits]; omega
                  have j5 : decide (y2 ≤ y1) = false := decide_eq_false (by omega)
                  have j6 : (0 : Int) ≤ (kk : Int) := by omega
                  have j7 : (0 : Int) ≤ (kj : Int) := by omega
                  have HK9 : Hid (kj < 4 ∧ kk + gk = 4 + 1 ∧ kk + 1 = kj) := Lib.hid ⟨hj, hk, hkj⟩
                  clear hk hj hkj hlt hx4
                  go_wp2_with fail
                  go_quiet (fail)
                  go_wp2_with fail
                  go_roundg (gk - 1)
                  case rel => exact ⟨kj, by have := HK9.out; omega, by have := HK9.out; go_num, Lib.hid (HC.out.below (drewN_b _ _))⟩
                  case measure => have := HK9.out; omega
                · have j1 : decide ((kj : Int) < (4 : Int)) = false := decide_eq_false (by omega)
                  have j2 : decide (kj < 4) = false := decide_eq_false (by omega)
                  obtain ⟨zd0, zd1⟩ := cell1 (HC.out.kept B (.cells #[.slice a n cap] 26 (0, 0) : Obj) HM.out.1)
                  go_wp2_with fail
                  have HC2 := Lib.hid (HC.out.set1 (B := B) (x := .slice a n cap) (T := 26) HM.out.1 HB.out (.slice a1 4 c1) (bs' := rs1 ++ [((B, (.cells #[.slice a1 4 c1] 26 (0, 0) : Obj)) : Nat × Obj)]) (fun z hz => by
                    rcases List.mem_append.1 hz with e | e
                    · exact .inr ⟨HM.out.2.2.2.2.2 z.1 z.2 e, fun e2 => by have := HD1.out z.1 z.2 e; have := HBW.out; omega⟩
                    · exact .inl (List.mem_singleton.1 e)))
                  clear zc0 zc1 zd0 zd1
                  go_roundg (g0 - 1)
                  case rel => exact ⟨i + 1, a1, 4, c1, gs, rs1, by have := HI9.out; omega, by have := HI9.out; omega, by have := HI9.out; go_num, HOK2, Lib.hid HM2.out.symm, HC2, Lib.hid (fun k oo q => by have := HD1.out k oo q; have := HBW.out; omega), HR1⟩
                  case measure => have := HI9.out; omega
        | false =>
          have hb2 := HBJ.out rfl
          injection hb2 with hb3 hb4 hb5 hb6
          subst hb3 hb4 hb5 hb6
          have hzz := fun u => (show (binOp .neq 33 (.agg #[.int .i64 0, .int .i64 0, .int .u64 0, .int .u64 0]) (.agg #[.int .i64 0, .int .i64 0, .int .u64 0, .int .u64 0])).run Try.prog u = .ok (.bool false) u by have := neqE ⟨0, 0, 0, 0⟩ ⟨0, 0, 0, 0⟩ u; rw [eqE_self] at this; exact this)
          obtain ⟨c0, c1⟩ := cell1 (HC.out.kept B (.cells #[.slice a n cap] 26 (0, 0) : Obj) (by simp [HM.out.1]))
          obtain ⟨d0, d1, d2, d3, d4, d5, d6, d7⟩ := cells4 (HC.out.kept E (.cells #[.int .i64 (R : Int), .int .i64 (Y : Int), .int .u64 0, .int .u64 0] 33 (0, 0) : Obj) (by simp))
          go_wp2_with fail
          clear c0 c1 d0 d1 d2 d3 d4 d5 d6 d7
          refine (HC.out.pput (fs := es) HN.out (HR0.out _ (fun k o q => HC.out.kept k o (by simp [HM.out.2 k o q]))) HOK.out (gs := gs) (ep := (R : Int)) (key := (Y : Int)) (nx := 0) (bt := 0) (gp := 0) (gk := 0) (gn := 0) (gb := 0) (is := false) HPE.out (m := m2) HM2.out).mono ?_
          rintro e w21 ⟨rs1, a1, c1, rfl, hc, hr, hd, hz⟩
          have HD1 : Hid (∀ k o, (k, o) ∈ rs1 → wx.heap.size ≤ k) := Lib.hid hd
          have HR1 := Lib.hid hr
          replace HC := Lib.hid hc
          clear hc hr hd hz
          replace HC := Lib.hid (HC.out.box #[.slice a1 m2 c1] 26)
          replace HC := Lib.hid (HC.out.box #[.int .i64 0, .int .i64 0, .int .u64 0, .int .u64 0] 33)
          rw [World.size_alloc] at HC
          go_upto_region 7 with fail
          generalize hwd : ((w21.alloc (.cells #[.slice a1 m2 c1] 26 : Obj)).alloc (.cells #[.int .i64 0, .int .i64 0, .int .u64 0, .int .u64 0] 33 : Obj)) = w22 at HC ⊢
          generalize hx1 : w21.heap.size + 1 = Xg at HC ⊢
          generalize hx2 : w21.heap.size = Xd at HC ⊢
          clear hwd hx1 hx2
          have HM0 := HM
          clear HM
          obtain ⟨BS2, hM, hB⟩ : ∃ BS2, (((B, (.cells #[.slice a n cap] 26 (0, 0) : Obj)) : Nat × Obj) ∈ BS2 ∧ ((Xd, (.cells #[.slice a1 m2 c1] 26 (0, 0) : Obj)) : Nat × Obj) ∈ BS2 ∧ ((Xg, (.cells #[.int .i64 0, .int .i64 0, .int .u64 0, .int .u64 0] 33 (0, 0) : Obj)) : Nat × Obj) ∈ BS2 ∧ ((E, (.cells #[.int .i64 (R : Int), .int .i64 (Y : Int), .int .u64 0, .int .u64 0] 33 (0, 0) : Obj)) : Nat × Obj) ∈ BS2 ∧ (∀ k o, (k, o) ∈ rs0 → (k, o) ∈ BS2) ∧ (∀ k o, (k, o) ∈ rs1 → (k, o) ∈ BS2)) ∧ Bx w BS2 w22 := ⟨_, ⟨by simp [HM0.out.1], by simp, by simp, by simp, fun k o q => by simp [HM0.out.2 k o q], fun k o q => by simp [q]⟩, HC.out⟩
          have HM := Lib.hid hM
          replace HC := Lib.hid hB
          clear hM hB HM0
          obtain ⟨zc0, zc1⟩ := cell1 (HC.out.kept Xd (.cells #[.slice a1 m2 c1] 26 (0, 0) : Obj) HM.out.2.1)
          obtain ⟨zd0, zd1, zd2, zd3, zd4, zd5, zd6, zd7⟩ := cells4 (HC.out.kept Xg (.cells #[.int .i64 0, .int .i64 0, .int .u64 0, .int .u64 0] 33 (0, 0) : Obj) HM.out.2.2.1)
          obtain ⟨ze0, ze1, ze2, ze3, ze4, ze5, ze6, ze7⟩ := cells4 (HC.out.kept E (.cells #[.int .i64 (R : Int), .int .i64 (Y : Int), .int .u64 0, .int .u64 0] 33 (0, 0) : Obj) HM.out.2.2.2.1)
          go_wp2_with fail
          clear zc0 zc1 zd0 zd1 zd2 zd3 zd4 zd5 zd6 zd7 ze0 ze1 ze2 ze3 ze4 ze5 ze6 ze7
          go_loopg [9] 12 (fun gk sk wr => ∃ (kk : Nat), kk + gk = 12 ∧ sk = .int .i64 (kk : Nat) ∧ Hid (Bx w BS2 wr))
          case atStart => exact ⟨0, rfl, rfl, HC⟩
          case round =>
            clear HC
            obtain ⟨kk, hk, rfl, HC⟩ := hrel
            by_cases h12 : kk < 12
            · obtain ⟨x, was, hga⟩ : ∃ x was, getE es (kk : Int) = (x, was) := ⟨_, _, rfl⟩
              obtain ⟨p1, p2, p3, p4⟩ := x
              obtain ⟨x, now, hgb⟩ : ∃ x now, getE gs (kk : Int) = (x, now) := ⟨_, _, rfl⟩
              obtain ⟨q1, q2, q3, q4⟩ := x
              have HGA := Lib.hid hga
              have HGB := Lib.hid hgb
              have HK9 : Hid (kk < 12 ∧ kk + gk = 12) := Lib.hid ⟨h12, hk⟩
              have k0 : (kk : Int) < 12 := by omega
              clear hga hgb hk h12
              obtain ⟨c0, c1⟩ := cell1 (HC.out.kept B (.cells #[.slice a n cap] 26 (0, 0) : Obj) HM.out.1)
              go_wp2_with fail
              clear c0 c1
              refine (HC.out.pget (fs := es) HN.out (HR0.out _ (fun k o q => HC.out.kept k o (HM.out.2.2.2.2.1 k o q))) HOK.out (K := (kk : Int)) (gp := p1) (gk := p2) (gn := p3) (gb := p4) (is := was) HGA.out).mono ?_
              rintro e w41 ⟨rfl, hc, hz⟩
              replace HC := Lib.hid hc
              clear hc hz
              replace HC := Lib.hid (HC.out.box #[.int .i64 p1, .int .i64 p2, .int .u64 p3, .int .u64 p4] 33)
              obtain ⟨c0, c1⟩ := cell1 (HC.out.kept Xd (.cells #[.slice a1 m2 c1] 26 (0, 0) : Obj) (by simp [HM.out.2.1]))
              go_wp2_with fail
              clear c0 c1
              refine (HC.out.pget (fs := gs) HM2.out.symm (HR1.out _ (fun k o q => HC.out.kept k o (by simp [HM.out.2.2.2.2.2 k o q]))) HOK2.out (K := (kk : Int)) (gp := q1) (gk := q2) (gn := q3) (gb := q4) (is := now) HGB.out).mono ?_
              rintro e w42 ⟨rfl, hc, hz⟩
              replace HC := Lib.hid hc
              clear hc hz
              replace HC := Lib.hid (HC.out.box #[.int .i64 q1, .int .i64 q2, .int .u64 q3, .int .u64 q4] 33)
              go_upto_region 14 with fail
              generalize hwd : (w42.alloc (.cells #[.int .i64 q1, .int .i64 q2, .int .u64 q3, .int .u64 q4] 33 : Obj)) = w43 at HC ⊢
              generalize hx1 : w42.heap.size = Xb at HC ⊢
              generalize hx2 : w41.heap.size = Xa at HC ⊢
              clear hwd hx1 hx2
              by_cases hkr : kk = R
              · obtain rfl : R = kk := hkr.symm
                have hbe := HBE.out
                have k1 : ((R : Int) == (R : Int)) = true := by simp
                obtain rfl : now = true := by have := hbe.1; rw [HGB.out] at this; simpa using this
                have hb4 : (⟨q1, q2, q3, q4⟩ : En) = ⟨(R : Int), (Y : Int), 0, 0⟩ := by have := hbe.2; rw [HGB.out] at this; exact this rfl
                injection hb4 with hb1 hb2 hb3 hb4
                subst hb1 hb2 hb3 hb4
                have hne := fun u => (show (binOp .neq 33 (.agg #[.int .i64 (R : Int), .int .i64 (Y : Int), .int .u64 0, .int .u64 0]) (.agg #[.int .i64 (R : Int), .int .i64 (Y : Int), .int .u64 0, .int .u64 0])).run Try.prog u = .ok (.bool false) u by have := neqE ⟨(R : Int), (Y : Int), 0, 0⟩ ⟨(R : Int), (Y : Int), 0, 0⟩ u; rw [eqE_self] at this; exact this)
                clear hbe
                obtain ⟨ze0, ze1, ze2, ze3, ze4, ze5, ze6, ze7⟩ := cells4 (HC.out.kept E (.cells #[.int .i64 (R : Int), .int .i64 (Y : Int), .int .u64 0, .int .u64 0] 33 (0, 0) : Obj) (by simp [HM.out.2.2.2.1]))
                obtain ⟨zg0, zg1, zg2, zg3, zg4, zg5, zg6, zg7⟩ := cells4 (HC.out.kept Xg (.cells #[.int .i64 0, .int .i64 0, .int .u64 0, .int .u64 0] 33 (0, 0) : Obj) (by simp [HM.out.2.2.1]))
                obtain ⟨za0, za1, za2, za3, za4, za5, za6, za7⟩ := cells4 (HC.out.kept Xa (.cells #[.int .i64 p1, .int .i64 p2, .int .u64 p3, .int .u64 p4] 33 (0, 0) : Obj) (by simp))
                obtain ⟨zb0, zb1, zb2, zb3, zb4, zb5, zb6, zb7⟩ := cells4 (HC.out.kept Xb (.cells #[.int .i64 (R : Int), .int .i64 (Y : Int), .int .u64 0, .int .u64 0] 33 (0, 0) : Obj) (by simp))
                go_wp2_with fail
                clear ze0 ze1 ze2 ze3 ze4 ze5 ze6 ze7 zg0 zg1 zg2 zg3 zg4 zg5 zg6 zg7 za0 za1 za2 za3 za4 za5 za6 za7 zb0 zb1 zb2 zb3 zb4 zb5 zb6 zb7
                go_roundg (gk - 1)
                case rel => exact ⟨R + 1, by have := HK9.out; omega, by have := HK9.out; go_num, Lib.hid (HC.out.less (fun x hx => by simp [hx]))⟩
                case measure => have := HK9.out; omega
              · have k1 : ((kk : Int) == (R : Int)) = false := by simp; omega
                have hki : (kk : Int) ≠ (R : Int) := by omega
                have hbn := HBN.out
                have hn1 : now = was := by have := (hbn (kk : Int) hki).1; rw [HGB.out, HGA.out] at this; simpa using this
                have hn2 : now = true → (⟨p1, p2, p3, p4⟩ : En) = ⟨q1, q2, q3, q4⟩ := by have := (hbn (kk : Int) hki).2; rw [HGB.out, HGA.out] at this; exact this
                subst hn1
                cases now with
                | false =>
                  clear hn2 hbn
                  obtain ⟨ze0, ze1, ze2, ze3, ze4, ze5, ze6, ze7⟩ := cells4 (HC.out.kept E (.cells #[.int .i64 (R : Int), .int .i64 (Y : Int), .int .u64 0, .int .u64 0] 33 (0, 0) : Obj) (by simp [HM.out.2.2.2.1]))
                  obtain ⟨zg0, zg1, zg2, zg3, zg4, zg5, zg6, zg7⟩ := cells4 (HC.out.kept Xg (.cells #[.int .i64 0, .int .i64 0, .int .u64 0, .int .u64 0] 33 (0, 0) : Obj) (by simp [HM.out.2.2.1]))
                  obtain ⟨za0, za1, za2, za3, za4, za5, za6, za7⟩ := cells4 (HC.out.kept Xa (.cells #[.int .i64 p1, .int .i64 p2, .int .u64 p3, .int .u64 p4] 33 (0, 0) : Obj) (by simp))
                  obtain ⟨zb0, zb1, zb2, zb3, zb4, zb5, zb6, zb7⟩ := cells4 (HC.out.kept Xb (.cells #[.int .i64 q1, .int .i64 q2, .int .u64 q3, .int .u64 q4] 33 (0, 0) : Obj) (by simp))
                  go_wp2_with fail
                  clear ze0 ze1 ze2 ze3 ze4 ze5 ze6 ze7 zg0 zg1 zg2 zg3 zg4 zg5 zg6 zg7 za0 za1 za2 za3 za4 za5 za6 za7 zb0 zb1 zb2 zb3 zb4 zb5 zb6 zb7
                  go_roundg (gk - 1)
                  case rel => exact ⟨kk + 1, by have := HK9.out; omega, by have := HK9.out; go_num, Lib.hid (HC.out.less (fun x hx => by simp [hx]))⟩
                  case measure => have := HK9.out; omega
                | true =>
                  have hn3 := hn2 rfl
                  injection hn3 with hb1 hb2 hb3 hb4
                  subst hb1 hb2 hb3 hb4
                  have hne := fun u => (show (binOp .neq 33 (.agg #[.int .i64 p1, .int .i64 p2, .int .u64 p3, .int .u64 p4]) (.agg #[.int .i64 p1, .int .i64 p2, .int .u64 p3, .int .u64 p4])).run Try.prog u = .ok (.bool false) u by have := neqE ⟨p1, p2, p3, p4⟩ ⟨p1, p2, p3, p4⟩ u; rw [eqE_self] at this; exact this)
                  clear hn2 hbn
                  obtain ⟨ze0, ze1, ze2, ze3, ze4, ze5, ze6, ze7⟩ := cells4 (HC.out.kept E (.cells #[.int .i64 (R : Int), .int .i64 (Y : Int), .int .u64 0, .int .u64 0] 33 (0, 0) : Obj) (by simp [HM.out.2.2.2.1]))
                  obtain ⟨zg0, zg1, zg2, zg3, zg4, zg5, zg6, zg7⟩ := cells4 (HC.out.kept Xg (.cells #[.int .i64 0, .int .i64 0, .int .u64 0, .int .u64 0] 33 (0, 0) : Obj) (by simp [HM.out.2.2.1]))
                  obtain ⟨za0, za1, za2, za3, za4, za5, za6, za7⟩ := cells4 (HC.out.kept Xa (.cells #[.int .i64 p1, .int .i64 p2, .int .u64 p3, .int .u64 p4] 33 (0, 0) : Obj) (by simp))
                  obtain ⟨zb0, zb1, zb2, zb3, zb4, zb5, zb6, zb7⟩ := cells4 (HC.out.kept Xb (.cells #[.int .i64 p1, .int .i64 p2, .int .u64 p3, .int .u64 p4] 33 (0, 0) : Obj) (by simp))
                  go_wp2_with fail
                  clear ze0 ze1 ze2 ze3 ze4 ze5 ze6 ze7 zg0 zg1 zg2 zg3 zg4 zg5 zg6 zg7 za0 za1 za2 za3 za4 za5 za6 za7 zb0 zb1 zb2 zb3 zb4 zb5 zb6 zb7
                  go_roundg (gk - 1)
                  case rel => exact ⟨kk + 1, by have := HK9.out; omega, by have := HK9.out; go_num, Lib.hid (HC.out.less (fun x hx => by simp [hx]))⟩
                  case measure => have := HK9.out; omega
            · have hke : 12 = kk := by omega
              subst hke
              go_wp2_with fail
              go_loopg [14] (m2 + 1) (fun gk sk wr => ∃ (kk : Nat), kk + gk = m2 + 1 ∧ sk = .int .i64 ((kk + 1 : Nat) : Int) ∧ Hid (Bx w BS2 wr))
              case atStart => exact ⟨0, by omega, rfl, HC⟩
              case round =>
                clear HC
                obtain ⟨kk, hk, rfl, HC⟩ := hrel
                obtain ⟨kj, hkj⟩ : ∃ kj, kk + 1 = kj := ⟨_, rfl⟩
                rw [hkj]
                obtain ⟨zc0, zc1⟩ := cell1 (HC.out.kept Xd (.cells #[.slice a1 m2 c1] 26 (0, 0) : Obj) HM.out.2.1)
                by_cases hj : kj < m2
                · obtain ⟨b1, f1, hx1, r0, _, _, _⟩ := erow_cell (HR1.out wr (fun k o q => HC.out.kept k o (HM.out.2.2.2.2.2 k o q))) (j := kk) (by rw [HM2.out]; omega)
                  obtain ⟨b2, f2, hx2, s0, _, _, _⟩ := erow_cell (HR1.out wr (fun k o q => HC.out.kept k o (HM.out.2.2.2.2.2 k o q))) (j := kj) (by rw [HM2.out]; exact hj)
                  have hlt := rise_lt HOK2.out.1 (j := kk) (by rw [HM2.out]; omega)
                  rw [hkj] at hlt
                  subst hx1
                  injection hx2 with hx2
                  injection hx2 with hx2 hx3 hx4
                  subst hx2 hx3
                  generalize (gs.getD kk zeroE).ep = y1 at r0 hlt
                  generalize (gs.getD kj zeroE).ep = y2 at s0 hlt
                  have j1 : (kj : Int) < (m2 : Int) := by omega
                  have j2 : (kj : Int) - 1 = (kk : Int) := by omega
                  have j3 : (kk : Int) < (m2 : Int) := by omega
                  have j4 : IntKind.i64.wrap (kk : Int) = (kk : Int) := by simp [IntKind.wrap, IntKind.signed, IntKind.bits]; omega
                  have j5 : decide (y2 ≤ y1) = false := decide_eq_false (by omega)
                  have j6 : (0 : Int) ≤ (kk : Int) := by omega
                  have j7 : (0 : Int) ≤ (kj : Int) := by omega
                  have HK9 : Hid (kj < m2 ∧ kk + gk = m2 + 1 ∧ kk + 1 = kj) := Lib.hid ⟨hj, hk, hkj⟩
                  clear hk hj hkj hlt hx4
                  go_wp2_with fail
                  go_quiet (fail)
                  go_wp2_with fail
                  go_roundg (gk - 1)
                  case rel => exact ⟨kj, by have := HK9.out; omega, by have := HK9.out; go_num, Lib.hid (HC.out.below (drewN_b _ _))⟩
                  case measure => have := HK9.out; omega
                · have j1 : decide ((kj : Int) < (m2 : Int)) = false := decide_eq_false (by omega)
                  have j2 : decide (kj < m2) = false := decide_eq_false (by omega)
                  obtain ⟨zd0, zd1⟩ := cell1 (HC.out.kept B (.cells #[.slice a n cap] 26 (0, 0) : Obj) HM.out.1)
                  go_wp2_with fail
                  have HC2 := Lib.hid (HC.out.set1 (B := B) (x := .slice a n cap) (T := 26) HM.out.1 HB.out (.slice a1 m2 c1) (bs' := rs1 ++ [((B, (.cells #[.slice a1 m2 c1] 26 (0, 0) : Obj)) : Nat × Obj)]) (fun z hz => by
                    rcases List.mem_append.1 hz with e | e
                    · exact .inr ⟨HM.out.2.2.2.2.2 z.1 z.2 e, fun e2 => by have := HD1.out z.1 z.2 e; have := HBW.out; omega⟩
                    · exact .inl (List.mem_singleton.1 e)))
                  clear zc0 zc1 zd0 zd1
                  go_roundg (g0 - 1)
                  case rel => exact ⟨i + 1, a1, m2, c1, gs, rs1, by have := HI9.out; omega, by have := HI9.out; omega, by have := HI9.out; go_num, HOK2, Lib.hid HM2.out.symm, HC2, Lib.hid (fun k oo q => by have := HD1.out k oo q; have := HBW.out; omega), HR1⟩
                  case measure => have := HI9.out; omega
    · by_cases h5 : i < len0
      · have h6 : ¬ i < 40 := fun q => h4 ⟨h5, q⟩
        have i2 : (i : Int) < (len0 : Int) := by omega
        have i3 : decide ((i : Int) < 40) = false := decide_eq_false (by omega)
        have i4 : decide (i < 40) = false := decide_eq_false h6
        clear h4
        go_wp2_with fail
        refine (fixed_any _).mono ?_
        rintro e w32 ⟨rfl, hb⟩
        replace HC := Lib.hid (HC.out.below hb)
        clear hb
        go_wp2_with fail
        go_ret
        exact ⟨rfl, HC.out.low⟩
      · have i3 : decide ((i : Int) < (len0 : Int)) = false := decide_eq_false (by omega)
        have i4 : decide (i < len0) = false := decide_eq_false h5
        clear h4
        go_wp2_with fail
        refine (fixed_any _).mono ?_
        rintro e w32 ⟨rfl, hb⟩
        replace HC := Lib.hid (HC.out.below hb)
        clear hb
        go_wp2_with fail
        go_ret
        exact ⟨rfl, HC.out.low⟩
set_option maxRecDepth 100000 in
theorem lifted (os : Os) (started : os.Started) (H : Type) (enc : TypeId × Value → H) :
    ReturnsInHanded {} Try.checked os 4 .any (Rows.skipBoundsSpec.pre6 enc Try.prog Try.f4 Rows.skipBoundsRow.domain false) (Rows.skipBoundsSpec.post enc Try.prog Try.f4 false true false false) := by
  refine returnsInHanded_of_change (C := Try.checked) own started (by kernel_rfl) Try.func4
    (ChangeSpec.witness6 (enc := enc) (C := Try.checked) false ⟨#[], #[.slice none 0 0], []⟩ 8 (by kernel_rfl) (by kernel_rfl) (by kernel_rfl) (by kernel_rfl)) ?_
  intro W base args ds gs before hval0 hW hcnd _
  have hval : ∀ (j : Nat) t v, Try.f4.params[j]? = some t → args[j]? = some v → Value.okWide Try.prog W .any base t v := hval0
  have hW' := hW
  obtain ⟨p, q, hA0, hV, rfl, hfz, hnd⟩ := hW
  have hA : DataW.TrodAll enc Try.prog W 0 (fun _ => true) true Try.f4.params.toList args.toList ds p := hA0
  rw [Try.params4] at hA hval
  obtain ⟨v0, vs0, d0, ds0, p0, q0, hargs, rfl, rfl, h0, r0⟩ := trodAll_cons hA
  obtain ⟨rfl, rfl, rfl⟩ := trodAll_nil r0
  obtain rfl : args = #[v0] := by cases args; simp_all
  obtain ⟨rfl, rfl⟩ := trodVars_none hV
  obtain ⟨a0, len0, cap0, rfl⟩ := okWide_slice Try.underlying56 (hval 0 56 v0 rfl rfl)
  have k0 := h0
  have lt0 : ∀ x ∈ p0, x.block < W.heap.size := by obtain ⟨m, hm⟩ := k0; exact DataW.trod_lt m _ _ _ hm
  obtain ⟨Z0, w0⟩ : ∃ Z, Arrs .u8 2 W a0 len0 cap0 Z := by
    obtain ⟨fuel, hf⟩ := h0
    exact open_arrs Try.underlying56 Try.underlying57 Try.underlying5 (by kernel_rfl) (by kernel_rfl) (by omega) (by simpa [Value.cells] using hf)
  clear hA0 hval0
  refine (walk a0 len0 cap0 Z0 W w0).mono fun e W' ⟨he, bel⟩ => ?_
  subst he
  exact ⟨_, rfl, _, _, _, [], _, [], hW', trodAll_mk1 (shut_bool Try.underlying4 _), (trodAll_cons_mk (Below.trod laidOut (by kernel_rfl) (of_decide_eq_true (by kernel_rfl)) k0 bel lt0) trodAll_mk0), rfl, bel.frame _, fun h => by cases h⟩

theorem over : Rows.skipBoundsRow.holds Try.pinned (OpenSpec.ofChange Rows.skipBoundsSpec) :=
  OpenClaim.holds_of_wide 4 Try.f4 rfl rfl rfl rfl rfl rfl rfl ⟨rfl, rfl, rfl, rfl, rfl⟩ rfl rfl rfl rfl rfl (by kernel_rfl) Try.func4 (by kernel_rfl)
    (of_decide_eq_true (by kernel_rfl)) (by unfold Func.isWrapper; first | (rw [if_pos (by decide +kernel)]; kernel_rfl) | (rw [if_neg (by decide +kernel)]; exact ⟨rfl, rfl⟩))
    (fun os started H enc _ => lifted os started H enc)

theorem proved : Rows.SkipBoundsSaid := over
#print axioms proved
end Go.Proofs.Ytpbcndbmmphngaa.skipBounds
