/- SkipLeast: of epochs that rise the last four stay; each one that goes is the one four ahead; an epoch below four that are kept goes at once. No condition. -/
import Derived.Test.YtpbcndbmmphngaaRows
import Derived.Test.YtpbcndbmmphngaaEnX
import Derived.WalkKit
import Derived.ProofKit
import Derived.OpenShut
import Derived.ShutString
import Derived.ChangeOld
import Derived.Below
namespace Go.Proofs.Ytpbcndbmmphngaa.skipLeast
open Go.ChangeShapes Go.WideShapes Go.ChangeAt Go.RowKit
open Go.ChangeMaps (open_string shut_string)
open Go.Proofs.Ytpbcndbmmphngaa
set_option linter.unusedVariables false
set_option linter.unusedSimpArgs false
set_option maxRecDepth 20000

theorem own : ownKnob Try.prog.godebug = none := by kernel_rfl
theorem laidOut : laidOutB Try.prog = true := by kernel_rfl
theorem last_ok : ∀ i, OkE (lastE i)
  | 0 => OkE.nil
  | i + 1 => by
    have h := (last_ok i).put (epE (i + 1))
    rw [last_step] at h
    exact h
set_option maxHeartbeats 8000000 in
set_option maxRecDepth 100000 in
theorem walk (x0 x1 : Int) (w : World) (w0 : (Lit.int .u8 x0).wf = true) (w1 : (Lit.int .u8 x1).wf = true) :
    Calls Try.prog 7 #[.int .u8 x0, .int .u8 x1] w fun e w' => e = .returned (.bool true) ∧ Below w.heap.size w w' := by
  obtain ⟨y0, y1⟩ := Go.bounds_u8 w0
  obtain ⟨N, rfl⟩ := Int.eq_ofNat_of_zero_le y0
  obtain ⟨y2, y3⟩ := Go.bounds_u8 w1
  obtain ⟨A, rfl⟩ := Int.eq_ofNat_of_zero_le y2
  obtain ⟨R, hR⟩ : ∃ R, N % 20 = R := ⟨_, rfl⟩
  obtain ⟨m, hm⟩ : ∃ m, 5 + R = m := ⟨_, rfl⟩
  obtain ⟨lo, hlo⟩ : ∃ lo, A % 101 = lo := ⟨_, rfl⟩
  have e1 : (N : Int) % 20 = (R : Int) := by rw [← hR]; simp
  have e2 : (N : Int).tmod 20 = (R : Int) := by rw [Int.tmod_eq_emod_of_nonneg (by omega)]; exact e1
  have e3 : 5 + (R : Int) = (m : Int) := by omega
  have e4 : (A : Int) % 101 = (lo : Int) := by rw [← hlo]; simp
  have e5 : (A : Int).tmod 101 = (lo : Int) := by rw [Int.tmod_eq_emod_of_nonneg (by omega)]; exact e4
  have HM : Hid (5 ≤ m ∧ m ≤ 24 ∧ lo ≤ 100) := Lib.hid (by omega)
  have bm : (m : Int) ≤ 24 := by omega
  have bN : (N : Int) ≤ 255 := by omega
  have bA : (A : Int) ≤ 255 := by omega
  have bR : (R : Int) ≤ 19 := by omega
  have eN : IntKind.i64.wrap (N : Int) = (N : Int) := by simp [IntKind.wrap, IntKind.signed, IntKind.bits]; omega
  have eA : IntKind.i64.wrap (A : Int) = (A : Int) := by simp [IntKind.wrap, IntKind.signed, IntKind.bits]; omega
  have hz0 := fun u => (show (binOp .neq 33 (.agg #[.int .i64 0, .int .i64 0, .int .u64 0, .int .u64 0]) (.agg #[.int .i64 0, .int .i64 0, .int .u64 0, .int .u64 0])).run Try.prog u = .ok (.bool false) u by have := neqE ⟨0, 0, 0, 0⟩ ⟨0, 0, 0, 0⟩ u; rw [eqE_self] at this; exact this)
  have hzl := fun u => (show (binOp .eql 33 (.agg #[.int .i64 (lo : Int), .int .i64 9, .int .u64 0, .int .u64 0]) (.agg #[.int .i64 (lo : Int), .int .i64 9, .int .u64 0, .int .u64 0])).run Try.prog u = .ok (.bool true) u by have := eqlE ⟨(lo : Int), 9, 0, 0⟩ ⟨(lo : Int), 9, 0, 0⟩ u; rw [eqE_self] at this; exact this)
  have hg := guardE
  have HC := Lib.hid ((Bx.start w).box #[.slice none 0 0] 26)
  have HB : Hid (w.heap.size ≤ w.heap.size) := Lib.hid (Nat.le_refl _)
  clear w0 w1 y0 y1 y2 y3 hR hm hlo
  go_enter Try.func7, Try.ntmps7
  go_upto_region 2 with fail
  generalize hwd : (w.alloc (.cells #[.slice none 0 0] 26 : Obj)) = wa at HC ⊢
  obtain ⟨B, hB1⟩ : ∃ B, w.heap.size = B := ⟨_, rfl⟩
  have HC : Hid (Bx w ([] ++ [(B, (.cells #[.slice none 0 0] 26 (0, 0) : Obj))]) wa) := Lib.hid (by have := HC.out; rw [hB1] at this; exact this)
  replace HB : Hid (w.heap.size ≤ B) := Lib.hid (by omega)
  rw [show w.heap.size = B from hB1]
  clear hwd
  go_wp2_with fail
  go_loopg [7] m (fun gk s7 wr => ∃ (i : Nat) (a : Option Addr) (n cap : Nat) (rs : List (Nat × Obj)), i + gk = m ∧ s7 = .int .i64 ((i + 1 : Nat) : Int) ∧ Hid (n = (lastE i).length) ∧ Hid (Bx w (rs ++ [(B, (.cells #[.slice a n cap] 26 (0, 0) : Obj))]) wr) ∧ Hid (∀ k o, (k, o) ∈ rs → k ≠ B) ∧ Hid (∀ u : World, (∀ k o, (k, o) ∈ rs → u.heap[k]? = some o) → RowE u a cap (lastE i)))
  case atStart => exact ⟨0, none, 0, 0, [], by omega, rfl, Lib.hid rfl, HC, Lib.hid (fun k o q => by simp at q), Lib.hid (fun u _ => RowE.none u)⟩
  case round =>
    clear HC
    obtain ⟨i, a, n, cap, rs0, hi, rfl, HN, HC, HDX, HR0⟩ := hrel
    obtain ⟨I, hI⟩ : ∃ I, i + 1 = I := ⟨_, rfl⟩
    rw [hI]
    have HOK : Hid (OkE (lastE i)) := Lib.hid (last_ok i)
    by_cases h4 : i < m
    · have i1 : (I : Int) ≤ (m : Int) := by omega
      have i9 : (I : Int) ≤ 24 := by omega
      have i0 : (1 : Int) ≤ (I : Int) := by omega
      obtain ⟨P, hP⟩ : ∃ P, 100 + (I : Int) = P := ⟨_, rfl⟩
      obtain ⟨m2, hm2⟩ : ∃ m2, (lastE I).length = m2 := ⟨_, rfl⟩
      have HM2 := Lib.hid hm2
      have HI9 : Hid (i < m ∧ i + gk = m ∧ i + 1 = I) := Lib.hid ⟨h4, hi, hI⟩
      have hst := last_step i
      rw [hI, show epE I = ⟨P, (I : Int), 0, 0⟩ by rw [← hP]; rfl] at hst
      by_cases hb : 4 ≤ i
      · rw [if_pos hb] at hst
        obtain ⟨G1, hG1⟩ : ∃ G1, 96 + (I : Int) = G1 := ⟨_, rfl⟩
        obtain ⟨G2, hG2⟩ : ∃ G2, (I : Int) - 4 = G2 := ⟨_, rfl⟩
        have HPE : Hid (putE (lastE i) ⟨P, (I : Int), 0, 0⟩ = (lastE I, ⟨G1, G2, 0, 0⟩, true)) := Lib.hid (by rw [hst, show epE (i - 3) = ⟨G1, G2, 0, 0⟩ by rw [← hG1, ← hG2]; unfold epE; congr 1 <;> omega])
        have c1 : decide ((4 : Int) < (I : Int)) = true := decide_eq_true (by omega)
        have c2 : decide (4 < I) = true := decide_eq_true (by omega)
        have hzg := fun u => (show (binOp .neq 33 (.agg #[.int .i64 G1, .int .i64 G2, .int .u64 0, .int .u64 0]) (.agg #[.int .i64 G1, .int .i64 G2, .int .u64 0, .int .u64 0])).run Try.prog u = .ok (.bool false) u by have := neqE ⟨G1, G2, 0, 0⟩ ⟨G1, G2, 0, 0⟩ u; rw [eqE_self] at this; exact this)
        clear hi h4 hI hm2 hst hb
        have HBW : Hid (B < wr.heap.size) := Lib.hid (HC.out.klt (k := B) (o := (.cells #[.slice a n cap] 26 (0, 0) : Obj)) (by simp))
        obtain ⟨cf0, cf1⟩ := cell1 (HC.out.kept (B) (.cells #[.slice a n cap] 26 (0, 0) : Obj) (by simp))
        go_wp2_with fail
        clear cf0 cf1
        refine (HC.out.pput (fs := lastE i) HN.out (HR0.out _ (fun k o q => HC.out.kept k o (by simp [q]))) HOK.out (gs := lastE I) (ep := P) (key := (I : Int)) (nx := 0) (bt := 0) (gp := G1) (gk := G2) (gn := 0) (gb := 0) (is := true) HPE.out (m := m2) HM2.out).mono ?_
        rintro e w2 ⟨rs1, a1, c1, rfl, hc, hr, hd, hz⟩
        have HZ1 : Hid (wr.heap.size ≤ w2.heap.size) := Lib.hid hz
        have HR1 := Lib.hid hr
        have HD1 := Lib.hid hd
        replace HC := Lib.hid hc
        clear hc hr hd hz
        replace HC := Lib.hid (HC.out.box #[.slice a1 m2 c1] 26)
        replace HC := Lib.hid (HC.out.box #[.int .i64 G1, .int .i64 G2, .int .u64 0, .int .u64 0] 33)
        obtain ⟨xf0, xf1, xf2, xf3, xf4, xf5, xf6, xf7⟩ := cells4 (HC.out.kept ((w2.alloc (.cells #[.slice a1 m2 c1] 26 : Obj)).heap.size) (.cells #[.int .i64 G1, .int .i64 G2, .int .u64 0, .int .u64 0] 33 (0, 0) : Obj) (by simp))
        go_upto_region 8 with fail
        clear xf0 xf1 xf2 xf3 xf4 xf5 xf6 xf7
        obtain ⟨df0, df1⟩ := cell1 (HC.out.kept (w2.heap.size) (.cells #[.slice a1 m2 c1] 26 (0, 0) : Obj) (by simp))
        obtain ⟨cf0, cf1⟩ := cell1 (HC.out.kept (B) (.cells #[.slice a n cap] 26 (0, 0) : Obj) (by simp))
        go_wp2_with fail
        clear df0 df1 cf0 cf1
        replace HC : Hid (Bx w (rs1 ++ [(B, (.cells #[.slice a1 m2 c1] 26 (0, 0) : Obj))]) (((w2.alloc (.cells #[.slice a1 m2 c1] 26 : Obj)).alloc (.cells #[.int .i64 G1, .int .i64 G2, .int .u64 0, .int .u64 0] 33 : Obj)).setCell ⟨B, 0, none⟩ (.slice a1 m2 c1))) := Lib.hid (HC.out.set1 (B := B) (x := .slice a n cap) (T := 26) (by simp) HB.out (.slice a1 m2 c1) (fun z hz => by
          rcases List.mem_append.1 hz with e | e
          · exact .inr ⟨by simp [e], fun e2 => by have := HD1.out z.1 z.2 e; have := HBW.out; omega⟩
          · exact .inl (List.mem_singleton.1 e)))
        go_roundg (gk - 1)
        case rel => exact ⟨I, a1, m2, c1, rs1, by have := HI9.out; omega, by have := HI9.out; go_num, Lib.hid HM2.out.symm, by first | exact HC | simpa using HC, Lib.hid (fun k oo q => by have := HD1.out k oo q; have := HBW.out; omega), Lib.hid HR1.out⟩
        case measure => have := HI9.out; omega
      · rw [if_neg hb] at hst
        have HPE : Hid (putE (lastE i) ⟨P, (I : Int), 0, 0⟩ = (lastE I, ⟨0, 0, 0, 0⟩, false)) := Lib.hid hst
        have c1 : decide ((4 : Int) < (I : Int)) = false := decide_eq_false (by omega)
        have c2 : decide (4 < I) = false := decide_eq_false (by omega)
        clear hi h4 hI hm2 hst hb
        have HBW : Hid (B < wr.heap.size) := Lib.hid (HC.out.klt (k := B) (o := (.cells #[.slice a n cap] 26 (0, 0) : Obj)) (by simp))
        obtain ⟨cf0, cf1⟩ := cell1 (HC.out.kept (B) (.cells #[.slice a n cap] 26 (0, 0) : Obj) (by simp))
        go_wp2_with fail
        clear cf0 cf1
        refine (HC.out.pput (fs := lastE i) HN.out (HR0.out _ (fun k o q => HC.out.kept k o (by simp [q]))) HOK.out (gs := lastE I) (ep := P) (key := (I : Int)) (nx := 0) (bt := 0) (gp := 0) (gk := 0) (gn := 0) (gb := 0) (is := false) HPE.out (m := m2) HM2.out).mono ?_
        rintro e w2 ⟨rs1, a1, c1, rfl, hc, hr, hd, hz⟩
        have HZ1 : Hid (wr.heap.size ≤ w2.heap.size) := Lib.hid hz
        have HR1 := Lib.hid hr
        have HD1 := Lib.hid hd
        replace HC := Lib.hid hc
        clear hc hr hd hz
        replace HC := Lib.hid (HC.out.box #[.slice a1 m2 c1] 26)
        replace HC := Lib.hid (HC.out.box #[.int .i64 0, .int .i64 0, .int .u64 0, .int .u64 0] 33)
        obtain ⟨xf0, xf1, xf2, xf3, xf4, xf5, xf6, xf7⟩ := cells4 (HC.out.kept ((w2.alloc (.cells #[.slice a1 m2 c1] 26 : Obj)).heap.size) (.cells #[.int .i64 0, .int .i64 0, .int .u64 0, .int .u64 0] 33 (0, 0) : Obj) (by simp))
        go_upto_region 8 with fail
        clear xf0 xf1 xf2 xf3 xf4 xf5 xf6 xf7
        obtain ⟨df0, df1⟩ := cell1 (HC.out.kept (w2.heap.size) (.cells #[.slice a1 m2 c1] 26 (0, 0) : Obj) (by simp))
        obtain ⟨cf0, cf1⟩ := cell1 (HC.out.kept (B) (.cells #[.slice a n cap] 26 (0, 0) : Obj) (by simp))
        go_wp2_with fail
        clear df0 df1 cf0 cf1
        replace HC : Hid (Bx w (rs1 ++ [(B, (.cells #[.slice a1 m2 c1] 26 (0, 0) : Obj))]) (((w2.alloc (.cells #[.slice a1 m2 c1] 26 : Obj)).alloc (.cells #[.int .i64 0, .int .i64 0, .int .u64 0, .int .u64 0] 33 : Obj)).setCell ⟨B, 0, none⟩ (.slice a1 m2 c1))) := Lib.hid (HC.out.set1 (B := B) (x := .slice a n cap) (T := 26) (by simp) HB.out (.slice a1 m2 c1) (fun z hz => by
          rcases List.mem_append.1 hz with e | e
          · exact .inr ⟨by simp [e], fun e2 => by have := HD1.out z.1 z.2 e; have := HBW.out; omega⟩
          · exact .inl (List.mem_singleton.1 e)))
        go_roundg (gk - 1)
        case rel => exact ⟨I, a1, m2, c1, rs1, by have := HI9.out; omega, by have := HI9.out; go_num, Lib.hid HM2.out.symm, by first | exact HC | simpa using HC, Lib.hid (fun k oo q => by have := HD1.out k oo q; have := HBW.out; omega), Lib.hid HR1.out⟩
        case measure => have := HI9.out; omega
    · have him : i = m := by omega
      subst him
      have i1 : decide ((I : Int) ≤ (i : Int)) = false := decide_eq_false (by omega)
      have i2 : decide (I ≤ i) = false := decide_eq_false (by omega)
      have hmm := HM.out
      obtain ⟨k4, hk4⟩ : ∃ k, i = k + 4 := ⟨i - 4, by omega⟩
      obtain rfl : n = 4 := by have := HN.out; rw [this, last_len]; omega
      obtain ⟨q1, hq1⟩ : ∃ q, (i : Int) - 3 = q := ⟨_, rfl⟩
      obtain ⟨q2, hq2⟩ : ∃ q, (i : Int) - 2 = q := ⟨_, rfl⟩
      obtain ⟨q3, hq3⟩ : ∃ q, (i : Int) - 1 = q := ⟨_, rfl⟩
      have HKE : Hid (keysE (lastE i) = [q1, q2, q3, (i : Int)]) := Lib.hid (by rw [← hq1, ← hq2, ← hq3, hk4, last_keys]; simp only [List.cons.injEq, and_true]; omega)
      have HLO : Hid (putE (lastE i) ⟨(lo : Int), 9, 0, 0⟩ = (lastE i, ⟨(lo : Int), 9, 0, 0⟩, true)) := Lib.hid (last_low (by omega) (by show (lo : Int) ≤ 100; omega))
      have ew1 : IntKind.i64.wrap q1 = q1 := by simp [IntKind.wrap, IntKind.signed, IntKind.bits]; omega
      have ew2 : IntKind.i64.wrap q2 = q2 := by simp [IntKind.wrap, IntKind.signed, IntKind.bits]; omega
      have ew3 : IntKind.i64.wrap q3 = q3 := by simp [IntKind.wrap, IntKind.signed, IntKind.bits]; omega
      have bi : (i : Int) ≤ 24 := by omega
      have bi5 : (5 : Int) ≤ (i : Int) := by omega
      clear hi h4 hI hk4 hmm
      obtain ⟨cf0, cf1⟩ := cell1 (HC.out.kept (B) (.cells #[.slice a 4 cap] 26 (0, 0) : Obj) (by simp))
      go_wp2_with fail
      clear cf0 cf1
      refine (HC.out.pput (fs := lastE i) HN.out (HR0.out _ (fun k o q => HC.out.kept k o (by simp [q]))) HOK.out (gs := lastE i) (ep := (lo : Int)) (key := 9) (nx := 0) (bt := 0) (gp := (lo : Int)) (gk := 9) (gn := 0) (gb := 0) (is := true) HLO.out (m := 4) HN.out.symm).mono ?_
      rintro e w11 ⟨rs1, a1, c1, rfl, hc, hr, hd, hz⟩
      have HZ1 : Hid (wr.heap.size ≤ w11.heap.size) := Lib.hid hz
      have HR1 := Lib.hid hr
      have HD1 := Lib.hid hd
      replace HC := Lib.hid hc
      clear hc hr hd hz
      replace HC := Lib.hid (HC.out.box #[.slice a1 4 c1] 26)
      replace HC := Lib.hid (HC.out.box #[.int .i64 (lo : Int), .int .i64 9, .int .u64 0, .int .u64 0] 33)
      go_upto_region 10 with fail
      rw [World.size_alloc] at HC
      generalize hwd : ((w11.alloc (.cells #[.slice a1 4 c1] 26 : Obj)).alloc (.cells #[.int .i64 (lo : Int), .int .i64 9, .int .u64 0, .int .u64 0] 33 : Obj)) = wk at HC ⊢
      generalize hxXg : w11.heap.size + 1 = Xg at HC ⊢
      generalize hxXd : w11.heap.size = Xd at HC ⊢
      clear hwd hxXg hxXd
      try dsimp only [List.append]
      obtain ⟨BS, hM, hB⟩ : ∃ BS, (((B, (.cells #[.slice a 4 cap] 26 (0, 0) : Obj)) : Nat × Obj) ∈ BS ∧ ((Xd, (.cells #[.slice a1 4 c1] 26 (0, 0) : Obj)) : Nat × Obj) ∈ BS ∧ ((Xg, (.cells #[.int .i64 (lo : Int), .int .i64 9, .int .u64 0, .int .u64 0] 33 (0, 0) : Obj)) : Nat × Obj) ∈ BS ∧ (∀ k o, (k, o) ∈ rs0 → (k, o) ∈ BS) ∧ (∀ k o, (k, o) ∈ rs1 → (k, o) ∈ BS)) ∧ Bx w BS wk := ⟨_, ⟨by simp, by simp, by simp, fun k o q => by simp [q], fun k o q => by simp [q]⟩, HC.out⟩
      have HM := Lib.hid hM
      have HCK := Lib.hid hB
      clear hM hB HC
      refine wp_region_held_drew (S := Bx w BS) (by kernel_rfl) (HCK.out.below (drew_b wk)) (fun hHeld => ?_)
      refine wpAnyH_take (i := 0) (oi := ?o101) (v := ?v101) ?i101 (by kernel_rfl) (by kernel_rfl) (by kernel_rfl) ?q101 (Or.inl ⟨?w101, ?y101⟩) (by assumption) ?r101
      case' i101 => simp only [List.getElem?_toArray, List.getElem?_cons_succ, List.getElem?_cons_zero]
      case i101 => rfl
      case q101 => exact fun _ _ _ h => h
      case w101 => kernel_rfl
      case y101 => (intro W hSw; obtain ⟨z0, z1⟩ := cell1 (hSw.kept _ _ HM.out.1); go_simp) <;> with_reducible rfl
      try simp only [Act.put, List.setIfInBounds_toArray, List.set_cons_zero, List.set_cons_succ]
      refine wpAnyH_take (i := 2) (oi := ?o102) (v := ?v102) ?i102 (by kernel_rfl) (by kernel_rfl) (by kernel_rfl) ?q102 (Or.inl ⟨?w102, ?y102⟩) (by assumption) ?r102
      case' i102 => simp only [List.getElem?_toArray, List.getElem?_cons_succ, List.getElem?_cons_zero]
      case i102 => rfl
      case q102 => exact fun _ _ _ h => h
      case w102 => kernel_rfl
      case y102 => (intro W hSw; go_simp) <;> with_reducible rfl
      try simp only [Act.put, List.setIfInBounds_toArray, List.set_cons_zero, List.set_cons_succ]
      refine wpAnyH_take (i := 3) (oi := ?o103) (v := ?v103) ?i103 (by kernel_rfl) (by kernel_rfl) (by kernel_rfl) ?q103 (Or.inl ⟨?w103, ?y103⟩) (by assumption) ?r103
      case' i103 => simp only [List.getElem?_toArray, List.getElem?_cons_succ, List.getElem?_cons_zero]
      case i103 => rfl
      case q103 => exact fun _ _ _ h => h
      case w103 => kernel_rfl
      case y103 => (intro W hSw; go_simp) <;> with_reducible rfl
      try simp only [Act.put, List.setIfInBounds_toArray, List.set_cons_zero, List.set_cons_succ]
      refine wpAnyH_take (i := 4) (oi := ?o104) (v := ?v104) ?i104 (by kernel_rfl) (by kernel_rfl) (by kernel_rfl) ?q104 (Or.inl ⟨?w104, ?y104⟩) (by assumption) ?r104
      case' i104 => simp only [List.getElem?_toArray, List.getElem?_cons_succ, List.getElem?_cons_zero]
      case i104 => rfl
      case q104 => exact fun _ _ _ h => h
      case w104 => kernel_rfl
      case y104 => (intro W hSw; go_simp) <;> with_reducible rfl
      try simp only [Act.put, List.setIfInBounds_toArray, List.set_cons_zero, List.set_cons_succ]
      refine wpAnyH_take (i := 5) (oi := ?o105) (v := ?v105) ?i105 (by kernel_rfl) (by kernel_rfl) (by kernel_rfl) ?q105 (Or.inl ⟨?w105, ?y105⟩) (by assumption) ?r105
      case' i105 => simp only [List.getElem?_toArray, List.getElem?_cons_succ, List.getElem?_cons_zero]
      case i105 => rfl
      case q105 => exact fun _ _ _ h => h
      case w105 => kernel_rfl
      case y105 => (intro W hSw; go_simp) <;> with_reducible rfl
      try simp only [Act.put, List.setIfInBounds_toArray, List.set_cons_zero, List.set_cons_succ]
      refine wpAnyH_take (i := 6) (oi := ?o106) (v := ?v106) ?i106 (by kernel_rfl) (by kernel_rfl) (by kernel_rfl) ?q106 (Or.inl ⟨?w106, ?y106⟩) (by assumption) ?r106
      case' i106 => simp only [List.getElem?_toArray, List.getElem?_cons_succ, List.getElem?_cons_zero]
      case i106 => rfl
      case q106 => exact fun _ _ _ h => h
      case w106 => kernel_rfl
      case y106 => (intro W hSw; go_simp) <;> with_reducible rfl
      try simp only [Act.put, List.setIfInBounds_toArray, List.set_cons_zero, List.set_cons_succ]
      refine wpAnyH_take (i := 7) (oi := ?o107) (v := ?v107) ?i107 (by kernel_rfl) (by kernel_rfl) (by kernel_rfl) ?q107 (Or.inl ⟨?w107, ?y107⟩) (by assumption) ?r107
      case' i107 => simp only [List.getElem?_toArray, List.getElem?_cons_succ, List.getElem?_cons_zero]
      case i107 => rfl
      case q107 => exact fun _ _ _ h => h
      case w107 => kernel_rfl
      case y107 => (intro W hSw; go_simp) <;> with_reducible rfl
      try simp only [Act.put, List.setIfInBounds_toArray, List.set_cons_zero, List.set_cons_succ]
      refine wpAnyH_take (i := 8) (oi := ?o108) (v := ?v108) ?i108 (by kernel_rfl) (by kernel_rfl) (by kernel_rfl) ?q108 (Or.inl ⟨?w108, ?y108⟩) (by assumption) ?r108
      case' i108 => simp only [List.getElem?_toArray, List.getElem?_cons_succ, List.getElem?_cons_zero]
      case i108 => rfl
      case q108 => exact fun _ _ _ h => h
      case w108 => kernel_rfl
      case y108 => (intro W hSw; go_simp) <;> with_reducible rfl
      try simp only [Act.put, List.setIfInBounds_toArray, List.set_cons_zero, List.set_cons_succ]
      refine wpAnyH_two (i := 1) (j := 9) (oi := ?oi109) (oj := ?oj109) (fun x y W => RowO W x [q1, q2, q3, (i : Int)] ∧ RowO W y [q1, q2, q3, (i : Int)]) ?hi109 ?hj109 ?h0109 (by kernel_rfl) (by kernel_rfl) (by kernel_rfl) rfl ?pi109 ?pj109 ?gi109 ?gj109 hHeld ⟨RowO.none _ _, RowO.none _ _⟩ ?h109
      case' hi109 => simp only [List.getElem?_toArray, List.getElem?_cons_succ, List.getElem?_cons_zero]
      case hi109 => rfl
      case' hj109 => simp only [List.getElem?_toArray, List.getElem?_cons_succ, List.getElem?_cons_zero]
      case hj109 => rfl
      case h0109 => rfl
      case pi109 => intros; rfl
      case pj109 => intros; rfl
      case gi109 =>
        intro X1 X2 W hS hI K' hK
        have hI2 := Lib.hid hI.2
        try simp only [Act.put, List.setIfInBounds_toArray, List.set_cons_zero, List.set_cons_succ]
        go_simp
        go_at_call 18
        refine (keys_s HN.out (HR0.out _ (fun k o q => hS.kept k o (HM.out.2.2.2.1 k o q))) HOK.out (fs := lastE i)).mono ?_
        rintro ee W2 ⟨a', c', rfl, hr, hb⟩
        go_wp2_with fail
        exact hK.out _ _ (hS.below hb) ⟨(RowO.some (L := [q1, q2, q3, (i : Int)]) rfl (by rw [← HKE.out]; exact hr)), hI2.out.below hb⟩
      case gj109 =>
        intro X1 X2 W hS hI K' hK
        have hI2 := Lib.hid hI.1
        try simp only [Act.put, List.setIfInBounds_toArray, List.set_cons_zero, List.set_cons_succ]
        have hb := below_alloc W (.cells #[.int .i64 q1, .int .i64 q2, .int .i64 q3, .int .i64 (i : Int)] 3)
        go_simp
        exact hK.out _ _ (hS.below hb) ⟨hI2.out.below hb, RowO.some rfl (lit_row .i64 3 W [q1, q2, q3, (i : Int)] (by simp [maxLen]))⟩
      intro X1 X2 W109 hHeld ⟨hx, hy⟩
      obtain ⟨ax, nx1, cx, rfl, hn1, hr1⟩ := hx _ rfl
      obtain ⟨ay, ny1, cy, rfl, hn2, hr2⟩ := hy _ rfl
      try simp only [Act.put, List.setIfInBounds_toArray, List.set_cons_zero, List.set_cons_succ]
      have HN1 := Lib.hid (And.intro hn1 hn2)
      have HQ1 := Lib.hid (And.intro hr1 hr2)
      clear hx hy hn1 hn2 hr1 hr2
      refine wpAnyH_ready (rs := [10]) (by kernel_rfl) (by simp) ?_
      refine AllReadyH.cons (o := ?o110) ?i110 (fun K' hK => ?_) AllReadyH.nil
      case' i110 => simp only [List.getElem?_toArray, List.getElem?_cons_succ, List.getElem?_cons_zero]
      case i110 => rfl
      go_simp
      go_at_call 17
      refine (same_i HN1.out.1 HN1.out.2 HQ1.out.1 HQ1.out.2 (r := true) (by simp)).mono ?_
      rintro ee W2 ⟨rfl, hb⟩
      have hhb := Lib.hid hb
      clear hb
      go_wp2_with fail
      refine hK.out _ _ (hHeld.below hhb.out) (fun hHeld => ?_)
      clear hK K'
      try simp only [Act.put, List.setIfInBounds_toArray, List.set_cons_zero, List.set_cons_succ]
      clear HN1 HQ1
      refine wpAnyH_take (i := 11) (oi := ?o111) (v := ?v111) ?i111 (by kernel_rfl) (by kernel_rfl) (by kernel_rfl) ?q111 (Or.inl ⟨?w111, ?y111⟩) (by assumption) ?r111
      case' i111 => simp only [List.getElem?_toArray, List.getElem?_cons_succ, List.getElem?_cons_zero]
      case i111 => rfl
      case q111 => exact fun _ _ _ h => h
      case w111 => kernel_rfl
      case y111 => (intro W hSw; go_simp) <;> with_reducible rfl
      try simp only [Act.put, List.setIfInBounds_toArray, List.set_cons_zero, List.set_cons_succ]
      refine wpAnyH_take (i := 12) (oi := ?o112) (v := ?v112) ?i112 (by kernel_rfl) (by kernel_rfl) (by kernel_rfl) ?q112 (Or.inl ⟨?w112, ?y112⟩) (by assumption) ?r112
      case' i112 => simp only [List.getElem?_toArray, List.getElem?_cons_succ, List.getElem?_cons_zero]
      case i112 => rfl
      case q112 => exact fun _ _ _ h => h
      case w112 => kernel_rfl
      case y112 => (intro W hSw; obtain ⟨z0, z1⟩ := cell1 (hSw.kept _ _ HM.out.2.1); go_simp) <;> with_reducible rfl
      try simp only [Act.put, List.setIfInBounds_toArray, List.set_cons_zero, List.set_cons_succ]
      refine wpAnyH_take (i := 14) (oi := ?o113) (v := ?v113) ?i113 (by kernel_rfl) (by kernel_rfl) (by kernel_rfl) ?q113 (Or.inl ⟨?w113, ?y113⟩) (by assumption) ?r113
      case' i113 => simp only [List.getElem?_toArray, List.getElem?_cons_succ, List.getElem?_cons_zero]
      case i113 => rfl
      case q113 => exact fun _ _ _ h => h
      case w113 => kernel_rfl
      case y113 => (intro W hSw; obtain ⟨z0, z1⟩ := cell1 (hSw.kept _ _ HM.out.1); go_simp) <;> with_reducible rfl
      try simp only [Act.put, List.setIfInBounds_toArray, List.set_cons_zero, List.set_cons_succ]
      refine wpAnyH_ready (rs := [13]) (by kernel_rfl) (by simp) ?_
      refine AllReadyH.cons (o := ?o114) ?i114 (fun K' hK => ?_) AllReadyH.nil
      case' i114 => simp only [List.getElem?_toArray, List.getElem?_cons_succ, List.getElem?_cons_zero]
      case i114 => rfl
      go_simp
      go_at_call 18
      refine (keys_s HN.out (HR1.out _ (fun k o q => hHeld.kept k o (HM.out.2.2.2.2 k o q))) HOK.out (fs := lastE i)).mono ?_
      rintro ee W2 ⟨aK1, cK1, rfl, hr, hb⟩
      have hhbK1 := Lib.hid hb
      have HK1 := Lib.hid hr
      clear hr
      clear hb
      go_wp2_with fail
      refine hK.out _ _ (hHeld.below hhbK1.out) (fun hHeld => ?_)
      clear hK K'
      try simp only [Act.put, List.setIfInBounds_toArray, List.set_cons_zero, List.set_cons_succ]
      refine wpAnyH_ready (rs := [15]) (by kernel_rfl) (by simp) ?_
      refine AllReadyH.cons (o := ?o115) ?i115 (fun K' hK => ?_) AllReadyH.nil
      case' i115 => simp only [List.getElem?_toArray, List.getElem?_cons_succ, List.getElem?_cons_zero]
      case i115 => rfl
      go_simp
      go_at_call 18
      refine (keys_s HN.out (HR0.out _ (fun k o q => hHeld.kept k o (HM.out.2.2.2.1 k o q))) HOK.out (fs := lastE i)).mono ?_
      rintro ee W2 ⟨aK2, cK2, rfl, hr, hb⟩
      have hhbK2 := Lib.hid hb
      have HK2 := Lib.hid hr
      clear hr
      clear hb
      go_wp2_with fail
      refine hK.out _ _ (hHeld.below hhbK2.out) (fun hHeld => ?_)
      clear hK K'
      try simp only [Act.put, List.setIfInBounds_toArray, List.set_cons_zero, List.set_cons_succ]
      refine wpAnyH_ready (rs := [16]) (by kernel_rfl) (by simp) ?_
      refine AllReadyH.cons (o := ?o116) ?i116 (fun K' hK => ?_) AllReadyH.nil
      case' i116 => simp only [List.getElem?_toArray, List.getElem?_cons_succ, List.getElem?_cons_zero]
      case i116 => rfl
      go_simp
      go_at_call 17
      refine (same_i (ks := keysE (lastE i)) (ms := keysE (lastE i)) (by rw [HKE.out]; rfl) (by rw [HKE.out]; rfl) (HK1.out.below hhbK2.out) HK2.out (r := true) (by simp)).mono ?_
      rintro ee W3 ⟨rfl, hb⟩
      have hhc := Lib.hid hb
      clear hb
      go_wp2_with fail
      refine hK.out _ _ (hHeld.below hhc.out) (fun hHeld => ?_)
      clear hK K'
      try simp only [Act.put, List.setIfInBounds_toArray, List.set_cons_zero, List.set_cons_succ]
      clear HK1 HK2
      refine wpAnyH_take (i := 17) (oi := ?o117) (v := ?v117) ?i117 (by kernel_rfl) (by kernel_rfl) (by kernel_rfl) ?q117 (Or.inl ⟨?w117, ?y117⟩) (by assumption) ?r117
      case' i117 => simp only [List.getElem?_toArray, List.getElem?_cons_succ, List.getElem?_cons_zero]
      case i117 => rfl
      case q117 => exact fun _ _ _ h => h
      case w117 => kernel_rfl
      case y117 => (intro W hSw; go_simp) <;> with_reducible rfl
      try simp only [Act.put, List.setIfInBounds_toArray, List.set_cons_zero, List.set_cons_succ]
      refine wpAnyH_take (i := 18) (oi := ?o118) (v := ?v118) ?i118 (by kernel_rfl) (by kernel_rfl) (by kernel_rfl) ?q118 (Or.inl ⟨?w118, ?y118⟩) (by assumption) ?r118
      case' i118 => simp only [List.getElem?_toArray, List.getElem?_cons_succ, List.getElem?_cons_zero]
      case i118 => rfl
      case q118 => exact fun _ _ _ h => h
      case w118 => kernel_rfl
      case y118 => (intro W hSw; go_simp) <;> with_reducible rfl
      try simp only [Act.put, List.setIfInBounds_toArray, List.set_cons_zero, List.set_cons_succ]
      refine wpAnyH_take (i := 19) (oi := ?o119) (v := ?v119) ?i119 (by kernel_rfl) (by kernel_rfl) (by kernel_rfl) ?q119 (Or.inl ⟨?w119, ?y119⟩) (by assumption) ?r119
      case' i119 => simp only [List.getElem?_toArray, List.getElem?_cons_succ, List.getElem?_cons_zero]
      case i119 => rfl
      case q119 => exact fun _ _ _ h => h
      case w119 => kernel_rfl
      case y119 => (intro W hSw; go_simp) <;> with_reducible rfl
      try simp only [Act.put, List.setIfInBounds_toArray, List.set_cons_zero, List.set_cons_succ]
      refine wpAnyH_take (i := 20) (oi := ?o120) (v := ?v120) ?i120 (by kernel_rfl) (by kernel_rfl) (by kernel_rfl) ?q120 (Or.inl ⟨?w120, ?y120⟩) (by assumption) ?r120
      case' i120 => simp only [List.getElem?_toArray, List.getElem?_cons_succ, List.getElem?_cons_zero]
      case i120 => rfl
      case q120 => exact fun _ _ _ h => h
      case w120 => kernel_rfl
      case y120 => (intro W hSw; go_simp) <;> with_reducible rfl
      try simp only [Act.put, List.setIfInBounds_toArray, List.set_cons_zero, List.set_cons_succ]
      refine wpAnyH_take (i := 21) (oi := ?o121) (v := ?v121) ?i121 (by kernel_rfl) (by kernel_rfl) (by kernel_rfl) ?q121 (Or.inl ⟨?w121, ?y121⟩) (by assumption) ?r121
      case' i121 => simp only [List.getElem?_toArray, List.getElem?_cons_succ, List.getElem?_cons_zero]
      case i121 => rfl
      case q121 => exact fun _ _ _ h => h
      case w121 => kernel_rfl
      case y121 => (intro W hSw; go_simp) <;> with_reducible rfl
      try simp only [Act.put, List.setIfInBounds_toArray, List.set_cons_zero, List.set_cons_succ]
      refine wpAnyH_take (i := 22) (oi := ?o122) (v := ?v122) ?i122 (by kernel_rfl) (by kernel_rfl) (by kernel_rfl) ?q122 (Or.inl ⟨?w122, ?y122⟩) (by assumption) ?r122
      case' i122 => simp only [List.getElem?_toArray, List.getElem?_cons_succ, List.getElem?_cons_zero]
      case i122 => rfl
      case q122 => exact fun _ _ _ h => h
      case w122 => kernel_rfl
      case y122 => (intro W hSw; obtain ⟨z0, z1, z2, z3, z4, z5, z6, z7⟩ := cells4 (hSw.kept _ _ HM.out.2.2.1); go_simp) <;> with_reducible rfl
      try simp only [Act.put, List.setIfInBounds_toArray, List.set_cons_zero, List.set_cons_succ]
      refine wpAnyH_take (i := 23) (oi := ?o123) (v := ?v123) ?i123 (by kernel_rfl) (by kernel_rfl) (by kernel_rfl) ?q123 (Or.inl ⟨?w123, ?y123⟩) (by assumption) ?r123
      case' i123 => simp only [List.getElem?_toArray, List.getElem?_cons_succ, List.getElem?_cons_zero]
      case i123 => rfl
      case q123 => exact fun _ _ _ h => h
      case w123 => kernel_rfl
      case y123 => (intro W hSw; go_simp) <;> with_reducible rfl
      try simp only [Act.put, List.setIfInBounds_toArray, List.set_cons_zero, List.set_cons_succ]
      refine wpAnyH_take (i := 24) (oi := ?o124) (v := ?v124) ?i124 (by kernel_rfl) (by kernel_rfl) (by kernel_rfl) ?q124 (Or.inl ⟨?w124, ?y124⟩) (by assumption) ?r124
      case' i124 => simp only [List.getElem?_toArray, List.getElem?_cons_succ, List.getElem?_cons_zero]
      case i124 => rfl
      case q124 => exact fun _ _ _ h => h
      case w124 => kernel_rfl
      case y124 => (intro W hSw; go_simp) <;> with_reducible rfl
      try simp only [Act.put, List.setIfInBounds_toArray, List.set_cons_zero, List.set_cons_succ]
      refine wpAnyH_take (i := 25) (oi := ?o125) (v := ?v125) ?i125 (by kernel_rfl) (by kernel_rfl) (by kernel_rfl) ?q125 (Or.inl ⟨?w125, ?y125⟩) (by assumption) ?r125
      case' i125 => simp only [List.getElem?_toArray, List.getElem?_cons_succ, List.getElem?_cons_zero]
      case i125 => rfl
      case q125 => exact fun _ _ _ h => h
      case w125 => kernel_rfl
      case y125 => (intro W hSw; go_simp) <;> with_reducible rfl
      try simp only [Act.put, List.setIfInBounds_toArray, List.set_cons_zero, List.set_cons_succ]
      refine wpAnyH_take (i := 26) (oi := ?o126) (v := ?v126) ?i126 (by kernel_rfl) (by kernel_rfl) (by kernel_rfl) ?q126 (Or.inl ⟨?w126, ?y126⟩) (by assumption) ?r126
      case' i126 => simp only [List.getElem?_toArray, List.getElem?_cons_succ, List.getElem?_cons_zero]
      case i126 => rfl
      case q126 => exact fun _ _ _ h => h
      case w126 => kernel_rfl
      case y126 => (intro W hSw; go_simp) <;> with_reducible rfl
      try simp only [Act.put, List.setIfInBounds_toArray, List.set_cons_zero, List.set_cons_succ]
      refine wpAnyH_take (i := 27) (oi := ?o127) (v := ?v127) ?i127 (by kernel_rfl) (by kernel_rfl) (by kernel_rfl) ?q127 (Or.inl ⟨?w127, ?y127⟩) (by assumption) ?r127
      case' i127 => simp only [List.getElem?_toArray, List.getElem?_cons_succ, List.getElem?_cons_zero]
      case i127 => rfl
      case q127 => exact fun _ _ _ h => h
      case w127 => kernel_rfl
      case y127 => (intro W hSw; go_simp) <;> with_reducible rfl
      try simp only [Act.put, List.setIfInBounds_toArray, List.set_cons_zero, List.set_cons_succ]
      refine wpAnyH_take (i := 28) (oi := ?o128) (v := ?v128) ?i128 (by kernel_rfl) (by kernel_rfl) (by kernel_rfl) ?q128 (Or.inl ⟨?w128, ?y128⟩) (by assumption) ?r128
      case' i128 => simp only [List.getElem?_toArray, List.getElem?_cons_succ, List.getElem?_cons_zero]
      case i128 => rfl
      case q128 => exact fun _ _ _ h => h
      case w128 => kernel_rfl
      case y128 => (intro W hSw; go_simp) <;> with_reducible rfl
      try simp only [Act.put, List.setIfInBounds_toArray, List.set_cons_zero, List.set_cons_succ]
      refine wpAnyH_take (i := 29) (oi := ?o129) (v := ?v129) ?i129 (by kernel_rfl) (by kernel_rfl) (by kernel_rfl) ?q129 (Or.inl ⟨?w129, ?y129⟩) (by assumption) ?r129
      case' i129 => simp only [List.getElem?_toArray, List.getElem?_cons_succ, List.getElem?_cons_zero]
      case i129 => rfl
      case q129 => exact fun _ _ _ h => h
      case w129 => kernel_rfl
      case y129 => (intro W hSw; go_simp) <;> with_reducible rfl
      try simp only [Act.put, List.setIfInBounds_toArray, List.set_cons_zero, List.set_cons_succ]
      refine wpAnyH_ready (rs := [30]) (by kernel_rfl) (by simp) ?_
      refine AllReadyH.cons (o := ?o130) ?i130 (fun K' hK => ?_) AllReadyH.nil
      case' i130 => simp only [List.getElem?_toArray, List.getElem?_cons_succ, List.getElem?_cons_zero]
      case i130 => rfl
      go_simp
      go_at_call 20
      refine (fixed_any _).mono ?_
      rintro ee W2 ⟨rfl, hb⟩
      have hhbF := Lib.hid hb
      clear hb
      go_wp2_with fail
      refine hK.out _ _ (hHeld.below hhbF.out) (fun hHeld => ?_)
      clear hK K'
      try simp only [Act.put, List.setIfInBounds_toArray, List.set_cons_zero, List.set_cons_succ]
      refine wpAnyH_take (i := 31) (oi := ?o131) (v := ?v131) ?i131 (by kernel_rfl) (by kernel_rfl) (by kernel_rfl) ?q131 (Or.inl ⟨?w131, ?y131⟩) (by assumption) ?r131
      case' i131 => simp only [List.getElem?_toArray, List.getElem?_cons_succ, List.getElem?_cons_zero]
      case i131 => rfl
      case q131 => exact fun _ _ _ h => h
      case w131 => kernel_rfl
      case y131 => (intro W hSw; go_simp) <;> with_reducible rfl
      try simp only [Act.put, List.setIfInBounds_toArray, List.set_cons_zero, List.set_cons_succ]
      refine wpAnyH_take (i := 32) (oi := ?o132) (v := ?v132) ?i132 (by kernel_rfl) (by kernel_rfl) (by kernel_rfl) ?q132 (Or.inl ⟨?w132, ?y132⟩) (by assumption) ?r132
      case' i132 => simp only [List.getElem?_toArray, List.getElem?_cons_succ, List.getElem?_cons_zero]
      case i132 => rfl
      case q132 => exact fun _ _ _ h => h
      case w132 => kernel_rfl
      case y132 => (intro W hSw; go_simp) <;> with_reducible rfl
      try simp only [Act.put, List.setIfInBounds_toArray, List.set_cons_zero, List.set_cons_succ]
      refine wpAnyH_done (by kernel_rfl) ?_ _
      have HZ := Lib.hid hHeld.low
      clear hHeld
      go_wp2_with fail
      go_ret
      exact ⟨rfl, HZ.out⟩
set_option maxRecDepth 100000 in
theorem lifted (os : Os) (started : os.Started) (H : Type) (enc : TypeId × Value → H) :
    ReturnsInHanded {} Try.checked os 7 .any (Rows.skipLeastSpec.pre6 enc Try.prog Try.f7 Rows.skipLeastRow.domain false) (Rows.skipLeastSpec.post enc Try.prog Try.f7 false true false false) := by
  refine returnsInHanded_of_change (C := Try.checked) own started (by kernel_rfl) Try.func7
    (ChangeSpec.witness6 (enc := enc) (C := Try.checked) false ⟨#[], #[.int .u8 0, .int .u8 0], []⟩ 8 (by kernel_rfl) (by kernel_rfl) (by kernel_rfl) (by kernel_rfl)) ?_
  intro W base args ds gs before hval0 hW hcnd _
  have hval : ∀ (j : Nat) t v, Try.f7.params[j]? = some t → args[j]? = some v → Value.okWide Try.prog W .any base t v := hval0
  have hW' := hW
  obtain ⟨p, q, hA0, hV, rfl, hfz, hnd⟩ := hW
  have hA : DataW.TrodAll enc Try.prog W 0 (fun _ => true) true Try.f7.params.toList args.toList ds p := hA0
  rw [Try.params7] at hA hval
  obtain ⟨v0, vs0, d0, ds0, p0, q0, hargs, rfl, rfl, h0, r0⟩ := trodAll_cons hA
  obtain ⟨v1, vs1, d1, ds1, p1, q1, rfl, rfl, rfl, h1, r1⟩ := trodAll_cons r0
  obtain ⟨rfl, rfl, rfl⟩ := trodAll_nil r1
  obtain rfl : args = #[v0, v1] := by cases args; simp_all
  obtain ⟨rfl, rfl⟩ := trodVars_none hV
  obtain ⟨a0, rfl, rfl, rfl, w0⟩ := open_int Try.underlying5 (hval 0 5 v0 rfl rfl) h0
  obtain ⟨a1, rfl, rfl, rfl, w1⟩ := open_int Try.underlying5 (hval 1 5 v1 rfl rfl) h1
  clear hA0 hval0
  refine (walk a0 a1 W w0 w1).mono fun e W' ⟨he, bel⟩ => ?_
  subst he
  exact ⟨_, rfl, _, _, _, [], _, [], hW', trodAll_mk1 (shut_bool Try.underlying4 _), (trodAll_cons_mk (shut_int Try.underlying5 w0) (trodAll_cons_mk (shut_int Try.underlying5 w1) trodAll_mk0)), rfl, bel.frame _, fun h => by cases h⟩

theorem over : Rows.skipLeastRow.holds Try.pinned (OpenSpec.ofChange Rows.skipLeastSpec) :=
  OpenClaim.holds_of_wide 7 Try.f7 rfl rfl rfl rfl rfl rfl rfl ⟨rfl, rfl, rfl, rfl, rfl⟩ rfl rfl rfl rfl rfl (by kernel_rfl) Try.func7 (by kernel_rfl)
    (of_decide_eq_true (by kernel_rfl)) (by unfold Func.isWrapper; first | (rw [if_pos (by decide +kernel)]; kernel_rfl) | (rw [if_neg (by decide +kernel)]; exact ⟨rfl, rfl⟩))
    (fun os started H enc _ => lifted os started H enc)

theorem proved : Rows.SkipLeastSaid := over
#print axioms proved
end Go.Proofs.Ytpbcndbmmphngaa.skipLeast
