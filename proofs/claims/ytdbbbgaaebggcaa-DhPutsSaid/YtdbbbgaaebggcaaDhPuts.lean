/- DhPuts: for every row of terms and two numbers, a public key is that of its secret, what two share is named by both secrets, the lesser one first, and what is there already is not put again. No condition. -/
import Derived.Test.YtdbbbgaaebggcaaRows
import Derived.Test.YtdbbbgaaebggcaaDhF
import Derived.Test.YtdbbbgaaebggcaaDhM
import Derived.Test.YtdbbbgaaebggcaaOpens
import Derived.WalkKit
import Derived.ProofKit
import Derived.OpenShut
import Derived.ShutString
import Derived.ChangeOld
import Derived.Below
namespace Go.Proofs.Ytdbbbgaaebggcaa.dhPuts
open Go.ChangeShapes Go.WideShapes Go.ChangeAt Go.RowKit
open Go.ChangeMaps (open_string shut_string)
open Go.Proofs.Ytdbbbgaaebggcaa
set_option linter.unusedVariables false

theorem own : ownKnob Try.prog.godebug = none := by kernel_rfl
theorem laidOut : laidOutB Try.prog = true := by kernel_rfl

theorem math (L : List Tm) (x y : Int) (hL : L.length ≤ 20) (bx : 1 ≤ x ∧ x ≤ (L.length : Int)) (ey : 1 ≤ y ∧ y ≤ (L.length : Int)) :
    ∃ p q a L1 L2 L3, putF L 1000 (pubT x) = (p, 0, L1) ∧ putF L1 1000 (pubT y) = (q, 0, L2) ∧ agreeF L2 1000 x q = (a, 0, L3) ∧ putF L3 1000 (pubT x) = (p, 0, L3) ∧
      agreeF L3 1000 y p = (a, 0, L3) ∧ getT L3 p = (pubT x, true) ∧ getT L3 a = (shareT (min x y) (max x y), true) ∧ secF L3 p = (x, true) ∧ secF L3 a = (0, false) ∧ (L3.length : Int) ≤ 23 := by
  obtain ⟨p, L1, e1, n1, x1, l1⟩ := pub_step L 1000 x bx.1 bx.2 (by omega)
  obtain ⟨q, L2, e2, n2, x2, l2⟩ := pub_step L1 1000 y ey.1 (x1.len ey.2) (by omega)
  have x12 := x1.trans x2
  obtain ⟨a, L3, e3, n3, x3, l3⟩ := agree_step 1000 n2 bx.1 (x12.len bx.2) ey.1 (x12.len ey.2) (by omega)
  have x13 := x12.trans x3
  have m1 := n1.ext (x2.trans x3)
  have e4 := put_old (most := 1000) m1 (may_pub bx.1 (x13.len bx.2))
  have e5 := agree_old 1000 m1 (by rw [sh_comm]; exact n3) ey.1 (x13.len ey.2) bx.1 (x13.len bx.2)
  refine ⟨p, q, a, L1, L2, L3, e1, e2, e3, e4, e5, m1.get, ?_, m1.sec, n3.noSec (by simp [sh, shareT]), by omega⟩
  rw [n3.get]
  unfold sh shareT
  congr 2 <;> split <;> omega


set_option maxHeartbeats 1000000 in
set_option maxRecDepth 100000 in
theorem walk (a0 : Option Addr) (len0 cap0 : Nat) (T0 : Nat → Tm) (x0 x1 : Int) (w : World) (w0 : Terms w a0 len0 cap0 T0) (h0 : (Lit.int .u8 x0).wf = true) (h1 : (Lit.int .u8 x1).wf = true) :
    Calls Try.prog 6 #[.slice a0 len0 cap0, .agg #[.int .u8 x0, .int .u8 x1]] w fun e w' => e = .returned (.bool true) ∧ Below w.heap.size w w' := by
  have hB0 : Below w.heap.size w (w.alloc (.cells #[.int .u8 x0, .int .u8 x1] 50)) := (Below.refl _ _).alloc (Nat.le_refl _) _
  have HT := Lib.hid (w0.below hB0)
  have HB0 := Lib.hid hB0
  have H0 := Lib.hid h0
  have H1 := Lib.hid h1
  clear w0 hB0 h0 h1
  go_enter Try.func6, Try.ntmps6
  go_wp2_with fail
  refine (stores_any 20 a0 len0 cap0 T0 _ (by omega) HT.out).mono ?_
  rintro e w1 ⟨g1, g2, L, rfl, hL, hp⟩
  have HP0 := Lib.hid hp
  have HLn := Lib.hid hL
  have HFit := Lib.hid hp.facts.1
  have gR := RSq.good (w.alloc (.cells #[.int .u8 x0, .int .u8 x1] 50)).heap.size g2 1000
  have gP := PSq.good (w.alloc (.cells #[.int .u8 x0, .int .u8 x1] 50)).heap.size g1 1000
  have hbl := hp.belowW
  have hlt : w.heap.size < (w.alloc (.cells #[.int .u8 x0, .int .u8 x1] 50)).heap.size := by simp
  have c : ∀ j, w1.cell? ⟨w.heap.size, j, none⟩ = #[Value.int .u8 x0, .int .u8 x1][j]? := fun j => by rw [hbl.cell (by exact hlt)]; exact cell_of_row _ _ j _ _ _ (heap_alloc_new w _)
  have c0 := c 0
  have c1 := c 1
  simp at c0 c1
  clear c hbl hlt hp hL HT
  by_cases hn : L.length = 0
  · have hl0 : ((L.length : Int) == 0) = true := by simp [hn]
    clear hn
    go_wp2_with fail
    refine (HP0.out.lenP).mono ?_
    rintro e w2 ⟨rfl, rfl⟩
    go_wp2_with fail
    refine (fixed_any _).mono ?_
    rintro e w3 ⟨rfl, hb3⟩
    have hb4 := HB0.out.trans ((HP0.out.belowW.trans (hb3.mono HP0.out.base_le)).mono HB0.out.size)
    clear hb3 c0 c1
    go_wp2
    go_ret
    exact ⟨rfl, hb4⟩
  · have hl0 : ((L.length : Int) == 0) = false := by simpa using hn
    have hn1 : (0 : Int) < L.length := by omega
    have hn2 : (L.length : Int) ≤ 20 := by have := HLn.out; omega
    have HL : Hid (∀ n, Calls Try.prog 17 #[.pointer (some ⟨g1, 0, none⟩)] (w1.drewN n) fun e w' => e = .returned (.int .i64 L.length) ∧ ∃ m, w' = w1.drewN m) := Lib.hid (fun n => quiet_of ((HP0.out.below gP gR (drewN_below _ _)).lenP))
    clear hn
    go_wp2_with fail
    refine (HP0.out.lenP).mono ?_
    rintro e w2 ⟨rfl, rfl⟩
    go_wp2_with fail
    go_quiet (first | (go_at_call 17; exact HL.out _))
    obtain ⟨x, hx⟩ : ∃ x, x = wrap64 (1 + (wrap64 x0).tmod ↑L.length) := ⟨_, rfl⟩
    have bx : 1 ≤ x ∧ x ≤ (L.length : Int) := by rw [hx]; exact pick_in x0 _ H0.out hn1 (by omega)
    obtain ⟨y, hy⟩ : ∃ y, y = wrap64 (1 + (wrap64 x1).tmod ↑L.length) := ⟨_, rfl⟩
    have «by» : 1 ≤ y ∧ y ≤ (L.length : Int) := by rw [hy]; exact pick_in x1 _ H1.out hn1 (by omega)
    rw [← hx, ← hy]
    obtain ⟨p, q, a, L1, L2, L3, e1, e2, e3, e4, e5, g3, g4, s1, s2, hl3⟩ := math L x y HLn.out bx «by»
    have E1 := Lib.hid e1
    have E2 := Lib.hid e2
    have E3 := Lib.hid e3
    have E4 := Lib.hid e4
    have E5 := Lib.hid e5
    have G3 := Lib.hid g3
    have G4 := Lib.hid g4
    have S1 := Lib.hid s1
    have S2 := Lib.hid s2
    have HX := Lib.hid (i64_small (x := x) (by omega) (by omega))
    have HY := Lib.hid (i64_small (x := y) (by omega) (by omega))
    obtain ⟨lo, hlo⟩ : ∃ lo, lo = min x y := ⟨_, rfl⟩
    obtain ⟨hi, hhi⟩ : ∃ hi, hi = max x y := ⟨_, rfl⟩
    have HLO := Lib.hid hlo.symm
    have HHI := Lib.hid hhi.symm
    rw [← hlo, ← hhi] at G4
    clear hlo hhi
    have HPA := Lib.hid (HP0.out.below gP gR (drewN_below w1 nq))
    clear hx bx hy «by» e1 e2 e3 e4 e5 g3 g4 s1 s2 HP0 HL c0 c1 hl0 hn1 hn2
    generalize w1.drewN nq = w2 at HPA ⊢
    go_wp2_with fail
    refine (HPA.out.publicP gR HX.out E1.out).mono ?_
    rintro e w3 ⟨rfl, hp, _⟩
    have HP3 := Lib.hid hp
    clear hp HPA
    go_wp2_with fail
    refine (HP3.out.publicP gR HY.out E2.out).mono ?_
    rintro e w4 ⟨rfl, hp, _⟩
    have HP4 := Lib.hid hp
    clear hp HP3
    go_wp2_with fail
    refine (HP4.out.agreeP gR HX.out E3.out).mono ?_
    rintro e w5 ⟨rfl, hp, _⟩
    have HP5 := Lib.hid hp
    clear hp HP4
    go_wp2_with fail
    refine (HP5.out.lenP).mono ?_
    rintro e w6 ⟨rfl, rfl⟩
    have HP6 := HP5
    clear HP5
    go_wp2_with fail
    refine (HP6.out.publicP gR HX.out E4.out).mono ?_
    rintro e w7 ⟨rfl, hp, _⟩
    have HP7 := Lib.hid hp
    clear hp HP6
    go_wp2_with fail
    refine (HP7.out.agreeP gR HY.out E5.out).mono ?_
    rintro e w8 ⟨rfl, hp, _⟩
    have HP8 := Lib.hid hp
    clear hp HP7
    go_wp2_with fail
    refine (HP8.out.getP gR p G3.out).mono ?_
    rintro e w9 ⟨rfl, hp, hb⟩
    rw [show ((pubT x, true) : Tm × Bool).1.v = .agg #[.int .i64 3, .string ⟨#[]⟩, .int .u64 0, .int .i64 x, .int .i64 0, .int .i64 0] from rfl]
    have HP9 := Lib.hid hp
    clear hp hb HP8
    go_wp2_with fail
    refine (HP9.out.below gP gR ((Below.refl _ _).alloc (Nat.le_refl _) (.cells #[.int .i64 3, .string ⟨#[]⟩, .int .u64 0, .int .i64 x, .int .i64 0, .int .i64 0] 49)) |>.getP gR a G4.out).mono ?_
    rintro e w10 ⟨rfl, hp, hb⟩
    rw [show ((shareT lo hi, true) : Tm × Bool).1.v = .agg #[.int .i64 4, .string ⟨#[]⟩, .int .u64 0, .int .i64 lo, .int .i64 hi, .int .i64 0] from rfl]
    have z : ∀ j, w10.cell? ⟨w9.heap.size, j, none⟩ = #[Value.int .i64 3, .string ⟨#[]⟩, .int .u64 0, .int .i64 x, .int .i64 0, .int .i64 0][j]? := fun j => by
      rw [hb.cell (by simp)]; exact cell_of_row _ _ j _ _ _ (heap_alloc_new w9 _)
    have hz9 : w9.heap.size < w10.heap.size := by have := hb.size; simp at this; omega
    have z0 := z 0
    have z1 := z 1
    have z2 := z 2
    have z3 := z 3
    have z4 := z 4
    have z5 := z 5
    simp at z0 z1 z2 z3 z4 z5
    have HP10 := Lib.hid hp
    clear z hp hb HP9
    have hE := eql_termP (pubT x) (pubT x)
    have hE2 := eql_termP (shareT lo hi) (shareT lo hi)
    have hgd := guard32
    rw [(eqB_iff _ _).2 rfl] at hE hE2
    unfold Tm.v pubT at hE
    unfold Tm.v shareT at hE2
    simp only [] at hE hE2
    have hlo := HLO.out
    have hhi := HHI.out
    have hl := beq_self_eq_true (L3.length : Int)
    have hpp := beq_self_eq_true p
    have haa := beq_self_eq_true a
    have HPX : Hid (∀ o, Pair (w.alloc (.cells #[.int .u8 x0, .int .u8 x1] 50)).heap.size (PSq (w.alloc (.cells #[.int .u8 x0, .int .u8 x1] 50)).heap.size g1 1000) (RSq (w.alloc (.cells #[.int .u8 x0, .int .u8 x1] 50)).heap.size g2 1000) L3 L (fun _ => False) (w.alloc (.cells #[.int .u8 x0, .int .u8 x1] 50)) (w10.alloc o)) := Lib.hid (fun o => HP10.out.below gP gR ((Below.refl _ _).alloc (Nat.le_refl _) _))
    clear HP10
    go_wp2_with fail
    refine ((HPX.out _).lenP).mono ?_
    rintro e w11 ⟨rfl, rfl⟩
    go_wp2_with fail
    refine ((HPX.out _).isP gR p S1.out).mono ?_
    rintro e w12 ⟨rfl, hp, _⟩
    have HP12 := Lib.hid hp
    clear hp HPX z0 z1 z2 z3 z4 z5 hE hE2 hz9
    go_wp2_with fail
    refine (HP12.out.isP gR a S2.out).mono ?_
    rintro e w13 ⟨rfl, hp, _⟩
    have HP13 := Lib.hid hp
    clear hp HP12
    go_wp2_with fail
    refine (fixed_any _).mono ?_
    rintro e w9 ⟨rfl, hb9⟩
    have hb := HB0.out.trans ((HP13.out.belowW.trans (hb9.mono HP13.out.base_le)).mono HB0.out.size)
    clear hb9
    go_wp2
    go_ret
    exact ⟨rfl, hb⟩

set_option maxRecDepth 100000 in
theorem lifted (os : Os) (started : os.Started) (H : Type) (enc : TypeId × Value → H) :
    ReturnsInHanded {} Try.checked os 6 .any (Rows.dhPutsSpec.pre6 enc Try.prog Try.f6 Rows.dhPutsRow.domain false) (Rows.dhPutsSpec.post enc Try.prog Try.f6 false true false false) := by
  refine returnsInHanded_of_change (C := Try.checked) own started (by kernel_rfl) Try.func6
    (ChangeSpec.witness6 (enc := enc) (C := Try.checked) false ⟨#[], #[.slice none 0 0, .agg #[.int .u8 0, .int .u8 0]], []⟩ 8 (by kernel_rfl) (by kernel_rfl) (by kernel_rfl) (by kernel_rfl)) ?_
  intro W base args ds gs before hval0 hW hcnd _
  have hval : ∀ (j : Nat) t v, Try.f6.params[j]? = some t → args[j]? = some v → Value.okWide Try.prog W .any base t v := hval0
  have hW' := hW
  obtain ⟨p, q, hA0, hV, rfl, hfz, hnd⟩ := hW
  have hA : DataW.TrodAll enc Try.prog W 0 (fun _ => true) true Try.f6.params.toList args.toList ds p := hA0
  rw [Try.params6] at hA hval
  obtain ⟨v0, vs0, d0, ds0, p0, q0, hargs, rfl, rfl, h0, r0⟩ := trodAll_cons hA
  obtain ⟨v1, vs1, d1, ds1, p1, q1, rfl, rfl, rfl, h1, r1⟩ := trodAll_cons r0
  obtain ⟨rfl, rfl, rfl⟩ := trodAll_nil r1
  obtain rfl : args = #[v0, v1] := by cases args; simp_all
  obtain ⟨rfl, rfl⟩ := trodVars_none hV
  obtain ⟨a0, len0, cap0, rfl⟩ := okWide_slice Try.underlying22 (hval 0 22 v0 rfl rfl)
  have k0 := h0
  have lt0 : ∀ x ∈ p0, x.block < W.heap.size := by obtain ⟨m, hm⟩ := k0; exact DataW.trod_lt m _ _ _ hm
  obtain ⟨T0, w0⟩ : ∃ T, Terms W a0 len0 cap0 T := by
    obtain ⟨fuel, hf⟩ := h0
    exact open_terms (by simpa [Value.cells] using hf)
  obtain ⟨cs1, rfl, hsz1⟩ : ∃ cs, v1 = .agg cs ∧ cs.size = Try.prog.cellsOf 50 := by
    have h := hval 1 50 v1 rfl rfl
    simp only [Value.okWide, Try.underlying50] at h
    obtain ⟨cs, e1, e2, _⟩ := h
    exact ⟨cs, e1, e2⟩
  have k1 := h1
  have lt1 : ∀ x ∈ p1, x.block < W.heap.size := by obtain ⟨m, hm⟩ := k1; exact DataW.trod_lt m _ _ _ hm
  obtain ⟨Z1, rfl, w1⟩ : ∃ Z : Nat → Int, cs1 = ((List.range 2).map fun j => Value.int .u8 (Z j)).toArray ∧ ∀ j, j < 2 → (Lit.int .u8 (Z j)).wf = true := by
    obtain ⟨fuel, hf⟩ := h1
    exact open_arrV Try.underlying50 Try.underlying5 (by kernel_rfl) (by kernel_rfl) hf
  clear hA0 hval0
  refine (walk a0 len0 cap0 T0 (Z1 0) (Z1 1) W w0 (w1 0 (by omega)) (w1 1 (by omega))).mono fun e W' ⟨he, bel⟩ => ?_
  subst he
  exact ⟨_, rfl, _, _, _, [], _, [], hW', trodAll_mk1 (shut_bool Try.underlying4 _), (trodAll_cons_mk (Below.trod laidOut (by kernel_rfl) (of_decide_eq_true (by kernel_rfl)) k0 bel lt0) (trodAll_cons_mk (Below.trod laidOut (by kernel_rfl) (of_decide_eq_true (by kernel_rfl)) k1 bel lt1) trodAll_mk0)), rfl, bel.frame _, fun h => by cases h⟩

theorem over : Rows.dhPutsRow.holds Try.pinned (OpenSpec.ofChange Rows.dhPutsSpec) :=
  OpenClaim.holds_of_wide 6 Try.f6 rfl rfl rfl rfl rfl rfl rfl ⟨rfl, rfl, rfl, rfl, rfl⟩ rfl rfl rfl rfl rfl (by kernel_rfl) Try.func6 (by kernel_rfl)
    (of_decide_eq_true (by kernel_rfl)) (by unfold Func.isWrapper; first | (rw [if_pos (by decide +kernel)]; kernel_rfl) | (rw [if_neg (by decide +kernel)]; exact ⟨rfl, rfl⟩))
    (fun os started H enc _ => lifted os started H enc)

theorem proved : Rows.DhPutsSaid := over
#print axioms proved
end Go.Proofs.Ytdbbbgaaebggcaa.dhPuts
