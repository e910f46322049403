/- DhThree: for every row of terms and three numbers, what two share is a secret as any other one: a third one shares the same with it, whichever of both reckons. No condition. -/
import Derived.Test.YtdbbbgaaebggcaaRows
import Derived.Test.YtdbbbgaaebggcaaDhF
import Derived.Test.YtdbbbgaaebggcaaDhM
import Derived.Test.YtdbbbgaaebggcaaOpens
import Derived.WalkKit
import Derived.ProofKit
import Derived.OpenShut
import Derived.ShutString
import Derived.ChangeOld
import Derived.Below
namespace Go.Proofs.Ytdbbbgaaebggcaa.dhThree
open Go.ChangeShapes Go.WideShapes Go.ChangeAt Go.RowKit
open Go.ChangeMaps (open_string shut_string)
open Go.Proofs.Ytdbbbgaaebggcaa
set_option linter.unusedVariables false

theorem own : ownKnob Try.prog.godebug = none := by kernel_rfl
theorem laidOut : laidOutB Try.prog = true := by kernel_rfl

theorem math (L : List Tm) (x y v : Int) (hL : L.length ≤ 20) (hf : Fit L) (bx : 1 ≤ x ∧ x ≤ (L.length : Int)) (ey : 1 ≤ y ∧ y ≤ (L.length : Int)) (bv : 1 ≤ v ∧ v ≤ (L.length : Int)) :
    ∃ p q o a r c L1 L2 L3 L4 L5 L6, putF L 1000 (pubT x) = (p, 0, L1) ∧ putF L1 1000 (pubT y) = (q, 0, L2) ∧ putF L2 1000 (pubT v) = (o, 0, L3) ∧ agreeF L3 1000 x q = (a, 0, L4) ∧
      agreeF L4 1000 y p = (a, 0, L4) ∧ putF L4 1000 (pubT a) = (r, 0, L5) ∧ agreeF L5 1000 a o = (c, 0, L6) ∧ agreeF L6 1000 v r = (c, 0, L6) ∧ c ≠ a ∧ I64 a := by
  obtain ⟨p, L1, e1, n1, x1, l1⟩ := pub_step L 1000 x bx.1 bx.2 (by omega)
  have f1 := (fit_putF (most := 1000) (t := pubT x) hf (by omega)).1
  rw [e1] at f1
  obtain ⟨q, L2, e2, n2, x2, l2⟩ := pub_step L1 1000 y ey.1 (x1.len ey.2) (by omega)
  have f2 := (fit_putF (most := 1000) (t := pubT y) f1 (by simp only; omega)).1
  simp only at f2
  rw [e2] at f2
  have x12 := x1.trans x2
  obtain ⟨o, L3, e3, n3, x3, l3⟩ := pub_step L2 1000 v bv.1 (x12.len bv.2) (by omega)
  have f3 := (fit_putF (most := 1000) (t := pubT v) f2 (by simp only; omega)).1
  simp only at f3
  rw [e3] at f3
  have x13 := x12.trans x3
  obtain ⟨a, L4, e4, n4, x4, l4⟩ := agree_step 1000 (n2.ext x3) bx.1 (x13.len bx.2) ey.1 (x13.len ey.2) (by omega)
  have f4 : Fit L4 := by
    have h := (fit_putF (most := 1000) (t := sh x y) f3 (by simp only; omega)).1
    simp only at h
    rw [agree_is (n2.ext x3)] at e4
    rw [e4] at h
    exact h
  have x14 := x13.trans x4
  have e5 := agree_old 1000 (n1.ext (x2.trans (x3.trans x4))) (by rw [sh_comm]; exact n4) ey.1 (x14.len ey.2) bx.1 (x14.len bx.2)
  have ha := n4.at
  obtain ⟨r, L5, e6, n6, x6, l6⟩ := pub_step L4 1000 a ha.1 ha.2.1 (by omega)
  have x16 := x14.trans x6
  obtain ⟨c, L6, e7, n7, x7, l7⟩ := agree_step 1000 (n3.ext (x4.trans x6)) ha.1 (x6.len ha.2.1) bv.1 (x16.len bv.2) (by omega)
  have e8 := agree_old 1000 (n6.ext x7) (by rw [sh_comm]; exact n7) bv.1 ((x16.trans x7).len bv.2) ha.1 ((x6.trans x7).len ha.2.1)
  refine ⟨p, q, o, a, r, c, L1, L2, L3, L4, L5, L6, e1, e2, e3, e4, e5, e6, e7, e8, ?_, i64_small (by omega) (by omega)⟩
  intro h
  have h2 := (n7.inj (n4.ext (x6.trans x7))).1 h
  have p0 := f4 (a - 1).toNat (by omega) 0 (by rw [ha.2.2]; simp [sh, shareT, many])
  have p1 := f4 (a - 1).toNat (by omega) 1 (by rw [ha.2.2]; simp [sh, shareT, many])
  rw [ha.2.2] at p0 p1
  unfold sh shareT at h2
  injection h2 with _ _ _ q1 q2 _
  simp only [sh, shareT, prt] at p0 p1
  simp at p0 p1
  revert q1 q2 p0 p1
  (repeat' split) <;> omega


set_option maxHeartbeats 1000000 in
set_option maxRecDepth 100000 in
theorem walk (a0 : Option Addr) (len0 cap0 : Nat) (T0 : Nat → Tm) (x0 x1 x2 : Int) (w : World) (w0 : Terms w a0 len0 cap0 T0) (h0 : (Lit.int .u8 x0).wf = true) (h1 : (Lit.int .u8 x1).wf = true) (h2 : (Lit.int .u8 x2).wf = true) :
    Calls Try.prog 7 #[.slice a0 len0 cap0, .agg #[.int .u8 x0, .int .u8 x1, .int .u8 x2]] w fun e w' => e = .returned (.bool true) ∧ Below w.heap.size w w' := by
  have hB0 : Below w.heap.size w (w.alloc (.cells #[.int .u8 x0, .int .u8 x1, .int .u8 x2] 40)) := (Below.refl _ _).alloc (Nat.le_refl _) _
  have HT := Lib.hid (w0.below hB0)
  have HB0 := Lib.hid hB0
  have H0 := Lib.hid h0
  have H1 := Lib.hid h1
  have H2 := Lib.hid h2
  clear w0 hB0 h0 h1 h2
  go_enter Try.func7, Try.ntmps7
  go_wp2_with fail
  refine (stores_any 20 a0 len0 cap0 T0 _ (by omega) HT.out).mono ?_
  rintro e w1 ⟨g1, g2, L, rfl, hL, hp⟩
  have HP0 := Lib.hid hp
  have HLn := Lib.hid hL
  have HFit := Lib.hid hp.facts.1
  have gR := RSq.good (w.alloc (.cells #[.int .u8 x0, .int .u8 x1, .int .u8 x2] 40)).heap.size g2 1000
  have gP := PSq.good (w.alloc (.cells #[.int .u8 x0, .int .u8 x1, .int .u8 x2] 40)).heap.size g1 1000
  have hbl := hp.belowW
  have hlt : w.heap.size < (w.alloc (.cells #[.int .u8 x0, .int .u8 x1, .int .u8 x2] 40)).heap.size := by simp
  have c : ∀ j, w1.cell? ⟨w.heap.size, j, none⟩ = #[Value.int .u8 x0, .int .u8 x1, .int .u8 x2][j]? := fun j => by rw [hbl.cell (by exact hlt)]; exact cell_of_row _ _ j _ _ _ (heap_alloc_new w _)
  have c0 := c 0
  have c1 := c 1
  have c2 := c 2
  simp at c0 c1 c2
  clear c hbl hlt hp hL HT
  by_cases hn : L.length = 0
  · have hl0 : ((L.length : Int) == 0) = true := by simp [hn]
    clear hn
    go_wp2_with fail
    refine (HP0.out.lenP).mono ?_
    rintro e w2 ⟨rfl, rfl⟩
    go_wp2_with fail
    refine (fixed_any _).mono ?_
    rintro e w3 ⟨rfl, hb3⟩
    have hb4 := HB0.out.trans ((HP0.out.belowW.trans (hb3.mono HP0.out.base_le)).mono HB0.out.size)
    clear hb3 c0 c1 c2
    go_wp2
    go_ret
    exact ⟨rfl, hb4⟩
  · have hl0 : ((L.length : Int) == 0) = false := by simpa using hn
    have hn1 : (0 : Int) < L.length := by omega
    have hn2 : (L.length : Int) ≤ 20 := by have := HLn.out; omega
    have HL : Hid (∀ n, Calls Try.prog 17 #[.pointer (some ⟨g1, 0, none⟩)] (w1.drewN n) fun e w' => e = .returned (.int .i64 L.length) ∧ ∃ m, w' = w1.drewN m) := Lib.hid (fun n => quiet_of ((HP0.out.below gP gR (drewN_below _ _)).lenP))
    clear hn
    go_wp2_with fail
    refine (HP0.out.lenP).mono ?_
    rintro e w2 ⟨rfl, rfl⟩
    go_wp2_with fail
    go_quiet (first | (go_at_call 17; exact HL.out _))
    obtain ⟨x, hx⟩ : ∃ x, x = wrap64 (1 + (wrap64 x0).tmod ↑L.length) := ⟨_, rfl⟩
    have bx : 1 ≤ x ∧ x ≤ (L.length : Int) := by rw [hx]; exact pick_in x0 _ H0.out hn1 (by omega)
    obtain ⟨y, hy⟩ : ∃ y, y = wrap64 (1 + (wrap64 x1).tmod ↑L.length) := ⟨_, rfl⟩
    have «by» : 1 ≤ y ∧ y ≤ (L.length : Int) := by rw [hy]; exact pick_in x1 _ H1.out hn1 (by omega)
    obtain ⟨v, hv⟩ : ∃ v, v = wrap64 (1 + (wrap64 x2).tmod ↑L.length) := ⟨_, rfl⟩
    have bv : 1 ≤ v ∧ v ≤ (L.length : Int) := by rw [hv]; exact pick_in x2 _ H2.out hn1 (by omega)
    rw [← hx, ← hy, ← hv]
    obtain ⟨p, q, o, a, r, c, L1, L2, L3, L4, L5, L6, e1, e2, e3, e4, e5, e6, e7, e8, b1, b2⟩ := math L x y v HLn.out HFit.out bx «by» bv
    have E1 := Lib.hid e1
    have E2 := Lib.hid e2
    have E3 := Lib.hid e3
    have E4 := Lib.hid e4
    have E5 := Lib.hid e5
    have E6 := Lib.hid e6
    have E7 := Lib.hid e7
    have E8 := Lib.hid e8
    have HX := Lib.hid (i64_small (x := x) (by omega) (by omega))
    have HY := Lib.hid (i64_small (x := y) (by omega) (by omega))
    have HV := Lib.hid (i64_small (x := v) (by omega) (by omega))
    have HA := Lib.hid b2
    have f1 : (c == c) = true := beq_self_eq_true c
    have f2 : (c != a) = true := by simpa using b1
    clear b1 b2
    have HPA := Lib.hid (HP0.out.below gP gR (drewN_below w1 nq))
    clear hx bx hy «by» hv bv e1 e2 e3 e4 e5 e6 e7 e8 HP0 HL c0 c1 c2 hl0 hn1 hn2
    generalize w1.drewN nq = w2 at HPA ⊢
    go_wp2_with fail
    refine (HPA.out.publicP gR HX.out E1.out).mono ?_
    rintro e w3 ⟨rfl, hp, _⟩
    have HP3 := Lib.hid hp
    clear hp HPA
    go_wp2_with fail
    refine (HP3.out.publicP gR HY.out E2.out).mono ?_
    rintro e w4 ⟨rfl, hp, _⟩
    have HP4 := Lib.hid hp
    clear hp HP3
    go_wp2_with fail
    refine (HP4.out.publicP gR HV.out E3.out).mono ?_
    rintro e w5 ⟨rfl, hp, _⟩
    have HP5 := Lib.hid hp
    clear hp HP4
    go_wp2_with fail
    refine (HP5.out.agreeP gR HX.out E4.out).mono ?_
    rintro e w6 ⟨rfl, hp, _⟩
    have HP6 := Lib.hid hp
    clear hp HP5
    go_wp2_with fail
    refine (HP6.out.agreeP gR HY.out E5.out).mono ?_
    rintro e w7 ⟨rfl, hp, _⟩
    have HP7 := Lib.hid hp
    clear hp HP6
    go_wp2_with fail
    refine (HP7.out.publicP gR HA.out E6.out).mono ?_
    rintro e w8 ⟨rfl, hp, _⟩
    have HP8 := Lib.hid hp
    clear hp HP7
    go_wp2_with fail
    refine (HP8.out.agreeP gR HA.out E7.out).mono ?_
    rintro e w9 ⟨rfl, hp, _⟩
    have HP9 := Lib.hid hp
    clear hp HP8
    go_wp2_with fail
    refine (HP9.out.agreeP gR HV.out E8.out).mono ?_
    rintro e w10 ⟨rfl, hp, _⟩
    have HP10 := Lib.hid hp
    clear hp HP9
    go_wp2_with fail
    refine (fixed_any _).mono ?_
    rintro e w9 ⟨rfl, hb9⟩
    have hb := HB0.out.trans ((HP10.out.belowW.trans (hb9.mono HP10.out.base_le)).mono HB0.out.size)
    clear hb9
    go_wp2
    go_ret
    exact ⟨rfl, hb⟩

set_option maxRecDepth 100000 in
theorem lifted (os : Os) (started : os.Started) (H : Type) (enc : TypeId × Value → H) :
    ReturnsInHanded {} Try.checked os 7 .any (Rows.dhThreeSpec.pre6 enc Try.prog Try.f7 Rows.dhThreeRow.domain false) (Rows.dhThreeSpec.post enc Try.prog Try.f7 false true false false) := by
  refine returnsInHanded_of_change (C := Try.checked) own started (by kernel_rfl) Try.func7
    (ChangeSpec.witness6 (enc := enc) (C := Try.checked) false ⟨#[], #[.slice none 0 0, .agg #[.int .u8 0, .int .u8 0, .int .u8 0]], []⟩ 8 (by kernel_rfl) (by kernel_rfl) (by kernel_rfl) (by kernel_rfl)) ?_
  intro W base args ds gs before hval0 hW hcnd _
  have hval : ∀ (j : Nat) t v, Try.f7.params[j]? = some t → args[j]? = some v → Value.okWide Try.prog W .any base t v := hval0
  have hW' := hW
  obtain ⟨p, q, hA0, hV, rfl, hfz, hnd⟩ := hW
  have hA : DataW.TrodAll enc Try.prog W 0 (fun _ => true) true Try.f7.params.toList args.toList ds p := hA0
  rw [Try.params7] at hA hval
  obtain ⟨v0, vs0, d0, ds0, p0, q0, hargs, rfl, rfl, h0, r0⟩ := trodAll_cons hA
  obtain ⟨v1, vs1, d1, ds1, p1, q1, rfl, rfl, rfl, h1, r1⟩ := trodAll_cons r0
  obtain ⟨rfl, rfl, rfl⟩ := trodAll_nil r1
  obtain rfl : args = #[v0, v1] := by cases args; simp_all
  obtain ⟨rfl, rfl⟩ := trodVars_none hV
  obtain ⟨a0, len0, cap0, rfl⟩ := okWide_slice Try.underlying22 (hval 0 22 v0 rfl rfl)
  have k0 := h0
  have lt0 : ∀ x ∈ p0, x.block < W.heap.size := by obtain ⟨m, hm⟩ := k0; exact DataW.trod_lt m _ _ _ hm
  obtain ⟨T0, w0⟩ : ∃ T, Terms W a0 len0 cap0 T := by
    obtain ⟨fuel, hf⟩ := h0
    exact open_terms (by simpa [Value.cells] using hf)
  obtain ⟨cs1, rfl, hsz1⟩ : ∃ cs, v1 = .agg cs ∧ cs.size = Try.prog.cellsOf 40 := by
    have h := hval 1 40 v1 rfl rfl
    simp only [Value.okWide, Try.underlying40] at h
    obtain ⟨cs, e1, e2, _⟩ := h
    exact ⟨cs, e1, e2⟩
  have k1 := h1
  have lt1 : ∀ x ∈ p1, x.block < W.heap.size := by obtain ⟨m, hm⟩ := k1; exact DataW.trod_lt m _ _ _ hm
  obtain ⟨Z1, rfl, w1⟩ : ∃ Z : Nat → Int, cs1 = ((List.range 3).map fun j => Value.int .u8 (Z j)).toArray ∧ ∀ j, j < 3 → (Lit.int .u8 (Z j)).wf = true := by
    obtain ⟨fuel, hf⟩ := h1
    exact open_arrV Try.underlying40 Try.underlying5 (by kernel_rfl) (by kernel_rfl) hf
  clear hA0 hval0
  refine (walk a0 len0 cap0 T0 (Z1 0) (Z1 1) (Z1 2) W w0 (w1 0 (by omega)) (w1 1 (by omega)) (w1 2 (by omega))).mono fun e W' ⟨he, bel⟩ => ?_
  subst he
  exact ⟨_, rfl, _, _, _, [], _, [], hW', trodAll_mk1 (shut_bool Try.underlying4 _), (trodAll_cons_mk (Below.trod laidOut (by kernel_rfl) (of_decide_eq_true (by kernel_rfl)) k0 bel lt0) (trodAll_cons_mk (Below.trod laidOut (by kernel_rfl) (of_decide_eq_true (by kernel_rfl)) k1 bel lt1) trodAll_mk0)), rfl, bel.frame _, fun h => by cases h⟩

theorem over : Rows.dhThreeRow.holds Try.pinned (OpenSpec.ofChange Rows.dhThreeSpec) :=
  OpenClaim.holds_of_wide 7 Try.f7 rfl rfl rfl rfl rfl rfl rfl ⟨rfl, rfl, rfl, rfl, rfl⟩ rfl rfl rfl rfl rfl (by kernel_rfl) Try.func7 (by kernel_rfl)
    (of_decide_eq_true (by kernel_rfl)) (by unfold Func.isWrapper; first | (rw [if_pos (by decide +kernel)]; kernel_rfl) | (rw [if_neg (by decide +kernel)]; exact ⟨rfl, rfl⟩))
    (fun os started H enc _ => lifted os started H enc)

theorem proved : Rows.DhThreeSaid := over
#print axioms proved
end Go.Proofs.Ytdbbbgaaebggcaa.dhThree
