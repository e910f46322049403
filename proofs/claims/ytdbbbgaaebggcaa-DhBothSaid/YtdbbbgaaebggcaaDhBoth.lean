/- DhBoth: for every row of terms and three numbers, both sides agree on one secret, and another pair on another one. No condition. -/
import Derived.Test.YtdbbbgaaebggcaaRows
import Derived.Test.YtdbbbgaaebggcaaDhF
import Derived.Test.YtdbbbgaaebggcaaDhM
import Derived.Test.YtdbbbgaaebggcaaOpens
import Derived.WalkKit
import Derived.ProofKit
import Derived.OpenShut
import Derived.ShutString
import Derived.ChangeOld
import Derived.Below
namespace Go.Proofs.Ytdbbbgaaebggcaa.dhBoth
open Go.ChangeShapes Go.WideShapes Go.ChangeAt Go.RowKit
open Go.ChangeMaps (open_string shut_string)
open Go.Proofs.Ytdbbbgaaebggcaa
set_option linter.unusedVariables false

theorem own : ownKnob Try.prog.godebug = none := by kernel_rfl
theorem laidOut : laidOutB Try.prog = true := by kernel_rfl

theorem math (L : List Tm) (x y z : Int) (hL : L.length ≤ 20) (bx : 1 ≤ x ∧ x ≤ (L.length : Int)) (ey : 1 ≤ y ∧ y ≤ (L.length : Int)) (bz : 1 ≤ z ∧ z ≤ (L.length : Int)) :
    ∃ p q v a c L1 L2 L3 L4 L5, putF L 1000 (pubT x) = (p, 0, L1) ∧ putF L1 1000 (pubT y) = (q, 0, L2) ∧ putF L2 1000 (pubT z) = (v, 0, L3) ∧ agreeF L3 1000 x q = (a, 0, L4) ∧
      agreeF L4 1000 y p = (a, 0, L4) ∧ agreeF L4 1000 x v = (c, 0, L5) ∧ (a = c ↔ y = z) ∧ (p = q ↔ x = y) ∧ a ≠ p ∧ a ≠ q := by
  obtain ⟨p, L1, e1, n1, x1, l1⟩ := pub_step L 1000 x bx.1 bx.2 (by omega)
  obtain ⟨q, L2, e2, n2, x2, l2⟩ := pub_step L1 1000 y ey.1 (x1.len ey.2) (by omega)
  have x12 := x1.trans x2
  obtain ⟨v, L3, e3, n3, x3, l3⟩ := pub_step L2 1000 z bz.1 (x12.len bz.2) (by omega)
  have x13 := x12.trans x3
  obtain ⟨a, L4, e4, n4, x4, l4⟩ := agree_step 1000 (n2.ext x3) bx.1 (x13.len bx.2) ey.1 (x13.len ey.2) (by omega)
  have x14 := x13.trans x4
  have e5 := agree_old 1000 (n1.ext (x2.trans (x3.trans x4))) (by rw [sh_comm]; exact n4) ey.1 (x14.len ey.2) bx.1 (x14.len bx.2)
  obtain ⟨c, L5, e6, n6, x6, l6⟩ := agree_step 1000 (n3.ext x4) bx.1 (x14.len bx.2) bz.1 (x14.len bz.2) (by omega)
  refine ⟨p, q, v, a, c, L1, L2, L3, L4, L5, e1, e2, e3, e4, e5, e6, ?_, ?_, ?_, ?_⟩
  · rw [(n4.ext x6).inj n6, sh_inj]
  · rw [(n1.ext x2).inj n2, pub_inj]
  · intro h; exact sh_ne_pub x y x ((n4.inj (n1.ext (x2.trans (x3.trans x4)))).1 h)
  · intro h; exact sh_ne_pub x y y ((n4.inj (n2.ext (x3.trans x4))).1 h)
theorem beqs {a b c d : Int} (h : a = b ↔ c = d) : ∃ t : Bool, (a == b) = t ∧ (c == d) = t := by
  refine ⟨(c == d), ?_, rfl⟩
  rw [Bool.eq_iff_iff]
  simpa using h

set_option maxHeartbeats 1000000 in
set_option maxRecDepth 100000 in
theorem walk (a0 : Option Addr) (len0 cap0 : Nat) (T0 : Nat → Tm) (x0 x1 x2 : Int) (w : World) (w0 : Terms w a0 len0 cap0 T0) (h0 : (Lit.int .u8 x0).wf = true) (h1 : (Lit.int .u8 x1).wf = true) (h2 : (Lit.int .u8 x2).wf = true) :
    Calls Try.prog 4 #[.slice a0 len0 cap0, .agg #[.int .u8 x0, .int .u8 x1, .int .u8 x2]] w fun e w' => e = .returned (.bool true) ∧ Below w.heap.size w w' := by
  have hB0 : Below w.heap.size w (w.alloc (.cells #[.int .u8 x0, .int .u8 x1, .int .u8 x2] 40)) := (Below.refl _ _).alloc (Nat.le_refl _) _
  have HT := Lib.hid (w0.below hB0)
  have HB0 := Lib.hid hB0
  have H0 := Lib.hid h0
  have H1 := Lib.hid h1
  have H2 := Lib.hid h2
  clear w0 hB0 h0 h1 h2
  go_enter Try.func4, Try.ntmps4
  go_wp2_with fail
  refine (stores_any 20 a0 len0 cap0 T0 _ (by omega) HT.out).mono ?_
  rintro e w1 ⟨g1, g2, L, rfl, hL, hp⟩
  have HP0 := Lib.hid hp
  have HLn := Lib.hid hL
  have gR := RSq.good (w.alloc (.cells #[.int .u8 x0, .int .u8 x1, .int .u8 x2] 40)).heap.size g2 1000
  have gP := PSq.good (w.alloc (.cells #[.int .u8 x0, .int .u8 x1, .int .u8 x2] 40)).heap.size g1 1000
  have hbl := hp.belowW
  have hlt : w.heap.size < (w.alloc (.cells #[.int .u8 x0, .int .u8 x1, .int .u8 x2] 40)).heap.size := by simp
  have c : ∀ j, w1.cell? ⟨w.heap.size, j, none⟩ = #[Value.int .u8 x0, .int .u8 x1, .int .u8 x2][j]? := fun j => by rw [hbl.cell (by exact hlt)]; exact cell_of_row _ _ j _ _ _ (heap_alloc_new w _)
  have c0 := c 0
  have c1 := c 1
  have c2 := c 2
  simp at c0 c1 c2
  clear c hbl hlt hp hL HT
  by_cases hn : L.length = 0
  · have hl0 : ((L.length : Int) == 0) = true := by simp [hn]
    clear hn
    go_wp2_with fail
    refine (HP0.out.lenP).mono ?_
    rintro e w2 ⟨rfl, rfl⟩
    go_wp2_with fail
    refine (fixed_any _).mono ?_
    rintro e w3 ⟨rfl, hb3⟩
    have hb4 := HB0.out.trans ((HP0.out.belowW.trans (hb3.mono HP0.out.base_le)).mono HB0.out.size)
    clear hb3 c0 c1 c2
    go_wp2
    go_ret
    exact ⟨rfl, hb4⟩
  · have hl0 : ((L.length : Int) == 0) = false := by simpa using hn
    have hn1 : (0 : Int) < L.length := by omega
    have hn2 : (L.length : Int) ≤ 20 := by have := HLn.out; omega
    have HL : Hid (∀ n, Calls Try.prog 17 #[.pointer (some ⟨g1, 0, none⟩)] (w1.drewN n) fun e w' => e = .returned (.int .i64 L.length) ∧ ∃ m, w' = w1.drewN m) := Lib.hid (fun n => quiet_of ((HP0.out.below gP gR (drewN_below _ _)).lenP))
    clear hn
    go_wp2_with fail
    refine (HP0.out.lenP).mono ?_
    rintro e w2 ⟨rfl, rfl⟩
    go_wp2_with fail
    go_quiet (first | (go_at_call 17; exact HL.out _))
    obtain ⟨x, hx⟩ : ∃ x, x = wrap64 (1 + (wrap64 x0).tmod ↑L.length) := ⟨_, rfl⟩
    obtain ⟨y, hy⟩ : ∃ y, y = wrap64 (1 + (wrap64 x1).tmod ↑L.length) := ⟨_, rfl⟩
    obtain ⟨z, hz⟩ : ∃ z, z = wrap64 (1 + (wrap64 x2).tmod ↑L.length) := ⟨_, rfl⟩
    have bx : 1 ≤ x ∧ x ≤ (L.length : Int) := by rw [hx]; exact pick_in x0 _ H0.out hn1 (by omega)
    have by' : 1 ≤ y ∧ y ≤ (L.length : Int) := by rw [hy]; exact pick_in x1 _ H1.out hn1 (by omega)
    have bz : 1 ≤ z ∧ z ≤ (L.length : Int) := by rw [hz]; exact pick_in x2 _ H2.out hn1 (by omega)
    rw [← hx, ← hy, ← hz]
    obtain ⟨p, q, v, a, c, L1, L2, L3, L4, L5, e1, e2, e3, e4, e5, e6, b1, b2, b3, b4⟩ := math L x y z HLn.out bx by' bz
    have E1 := Lib.hid e1
    have E2 := Lib.hid e2
    have E3 := Lib.hid e3
    have E4 := Lib.hid e4
    have E5 := Lib.hid e5
    have E6 := Lib.hid e6
    obtain ⟨t1, f1, f2⟩ := beqs b1
    obtain ⟨t2, f3, f4⟩ := beqs b2
    have f5 : (a == a) = true := beq_self_eq_true a
    have f6 : (a != p) = true := by simpa using b3
    have f7 : (a != q) = true := by simpa using b4
    have F1 := Lib.hid f1
    have F2 := Lib.hid f2
    have F3 := Lib.hid f3
    have F4 := Lib.hid f4
    have HX : Hid (I64 x) := Lib.hid (i64_small (by omega) (by omega))
    have HY : Hid (I64 y) := Lib.hid (i64_small (by omega) (by omega))
    have HZ : Hid (I64 z) := Lib.hid (i64_small (by omega) (by omega))
    have HPA := Lib.hid (HP0.out.below gP gR (drewN_below w1 nq))
    clear hx hy hz bx by' bz e1 e2 e3 e4 e5 e6 b1 b2 b3 b4 f1 f2 f3 f4 HP0 HL c0 c1 c2 hl0 hn1 hn2
    generalize w1.drewN nq = w2 at HPA ⊢
    go_wp2_with fail
    refine (HPA.out.publicP gR HX.out E1.out).mono ?_
    rintro e w3 ⟨rfl, hp, _⟩
    have HP3 := Lib.hid hp
    clear hp HPA
    go_wp2_with fail
    refine (HP3.out.publicP gR HY.out E2.out).mono ?_
    rintro e w4 ⟨rfl, hp, _⟩
    have HP4 := Lib.hid hp
    clear hp HP3
    go_wp2_with fail
    refine (HP4.out.publicP gR HZ.out E3.out).mono ?_
    rintro e w5 ⟨rfl, hp, _⟩
    have HP5 := Lib.hid hp
    clear hp HP4
    go_wp2_with fail
    refine (HP5.out.agreeP gR HX.out E4.out).mono ?_
    rintro e w6 ⟨rfl, hp, _⟩
    have HP6 := Lib.hid hp
    clear hp HP5
    go_wp2_with fail
    refine (HP6.out.agreeP gR HY.out E5.out).mono ?_
    rintro e w7 ⟨rfl, hp, _⟩
    have HP7 := Lib.hid hp
    clear hp HP6
    go_wp2_with fail
    refine (HP7.out.agreeP gR HX.out E6.out).mono ?_
    rintro e w8 ⟨rfl, hp, _⟩
    have HP8 := Lib.hid hp
    clear hp HP7
    have f1 := F1.out
    have f2 := F2.out
    have f3 := F3.out
    have f4 := F4.out
    have f8 : (t1 == t1) = true := beq_self_eq_true t1
    have f9 : (t2 == t2) = true := beq_self_eq_true t2
    go_wp2_with fail
    refine (fixed_any _).mono ?_
    rintro e w9 ⟨rfl, hb9⟩
    have hb := HB0.out.trans ((HP8.out.belowW.trans (hb9.mono HP8.out.base_le)).mono HB0.out.size)
    clear hb9
    go_wp2
    go_ret
    exact ⟨rfl, hb⟩
set_option maxRecDepth 100000 in
theorem lifted (os : Os) (started : os.Started) (H : Type) (enc : TypeId × Value → H) :
    ReturnsInHanded {} Try.checked os 4 .any (Rows.dhBothSpec.pre6 enc Try.prog Try.f4 Rows.dhBothRow.domain false) (Rows.dhBothSpec.post enc Try.prog Try.f4 false true false false) := by
  refine returnsInHanded_of_change (C := Try.checked) own started (by kernel_rfl) Try.func4
    (ChangeSpec.witness6 (enc := enc) (C := Try.checked) false ⟨#[], #[.slice none 0 0, .agg #[.int .u8 0, .int .u8 0, .int .u8 0]], []⟩ 8 (by kernel_rfl) (by kernel_rfl) (by kernel_rfl) (by kernel_rfl)) ?_
  intro W base args ds gs before hval0 hW hcnd _
  have hval : ∀ (j : Nat) t v, Try.f4.params[j]? = some t → args[j]? = some v → Value.okWide Try.prog W .any base t v := hval0
  have hW' := hW
  obtain ⟨p, q, hA0, hV, rfl, hfz, hnd⟩ := hW
  have hA : DataW.TrodAll enc Try.prog W 0 (fun _ => true) true Try.f4.params.toList args.toList ds p := hA0
  rw [Try.params4] at hA hval
  obtain ⟨v0, vs0, d0, ds0, p0, q0, hargs, rfl, rfl, h0, r0⟩ := trodAll_cons hA
  obtain ⟨v1, vs1, d1, ds1, p1, q1, rfl, rfl, rfl, h1, r1⟩ := trodAll_cons r0
  obtain ⟨rfl, rfl, rfl⟩ := trodAll_nil r1
  obtain rfl : args = #[v0, v1] := by cases args; simp_all
  obtain ⟨rfl, rfl⟩ := trodVars_none hV
  obtain ⟨a0, len0, cap0, rfl⟩ := okWide_slice Try.underlying22 (hval 0 22 v0 rfl rfl)
  have k0 := h0
  have lt0 : ∀ x ∈ p0, x.block < W.heap.size := by obtain ⟨m, hm⟩ := k0; exact DataW.trod_lt m _ _ _ hm
  obtain ⟨T0, w0⟩ : ∃ T, Terms W a0 len0 cap0 T := by
    obtain ⟨fuel, hf⟩ := h0
    exact open_terms (by simpa [Value.cells] using hf)
  obtain ⟨cs1, rfl, hsz1⟩ : ∃ cs, v1 = .agg cs ∧ cs.size = Try.prog.cellsOf 40 := by
    have h := hval 1 40 v1 rfl rfl
    simp only [Value.okWide, Try.underlying40] at h
    obtain ⟨cs, e1, e2, _⟩ := h
    exact ⟨cs, e1, e2⟩
  have k1 := h1
  have lt1 : ∀ x ∈ p1, x.block < W.heap.size := by obtain ⟨m, hm⟩ := k1; exact DataW.trod_lt m _ _ _ hm
  obtain ⟨Z1, rfl, w1⟩ : ∃ Z : Nat → Int, cs1 = ((List.range 3).map fun j => Value.int .u8 (Z j)).toArray ∧ ∀ j, j < 3 → (Lit.int .u8 (Z j)).wf = true := by
    obtain ⟨fuel, hf⟩ := h1
    exact open_arrV Try.underlying40 Try.underlying5 (by kernel_rfl) (by kernel_rfl) hf
  clear hA0 hval0
  refine (walk a0 len0 cap0 T0 (Z1 0) (Z1 1) (Z1 2) W w0 (w1 0 (by omega)) (w1 1 (by omega)) (w1 2 (by omega))).mono fun e W' ⟨he, bel⟩ => ?_
  subst he
  exact ⟨_, rfl, _, _, _, [], _, [], hW', trodAll_mk1 (shut_bool Try.underlying4 _), (trodAll_cons_mk (Below.trod laidOut (by kernel_rfl) (of_decide_eq_true (by kernel_rfl)) k0 bel lt0) (trodAll_cons_mk (Below.trod laidOut (by kernel_rfl) (of_decide_eq_true (by kernel_rfl)) k1 bel lt1) trodAll_mk0)), rfl, bel.frame _, fun h => by cases h⟩

theorem over : Rows.dhBothRow.holds Try.pinned (OpenSpec.ofChange Rows.dhBothSpec) :=
  OpenClaim.holds_of_wide 4 Try.f4 rfl rfl rfl rfl rfl rfl rfl ⟨rfl, rfl, rfl, rfl, rfl⟩ rfl rfl rfl rfl rfl (by kernel_rfl) Try.func4 (by kernel_rfl)
    (of_decide_eq_true (by kernel_rfl)) (by unfold Func.isWrapper; first | (rw [if_pos (by decide +kernel)]; kernel_rfl) | (rw [if_neg (by decide +kernel)]; exact ⟨rfl, rfl⟩))
    (fun os started H enc _ => lifted os started H enc)

theorem proved : Rows.DhBothSaid := over
#print axioms proved
end Go.Proofs.Ytdbbbgaaebggcaa.dhBoth
