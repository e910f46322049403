/- With another secret in the slot that is used a handshake is not opened, for every input. -/
import Derived.Test.YtgeonppckeiceaaGreatDoorCards
import Derived.Test.YtgeonppckeiceaaGreatDoorTie
import Derived.Test.YtgeonppckeiceaaGreatDoorGp43
import Derived.Test.YtgeonppckeiceaaGreatDoorHandU
import Derived.Deep.RegionHeld3
import Derived.WalkKit
import Derived.ProofKit
import Derived.OpenShut
import Derived.ShutString
import Derived.ChangeOld
import Derived.Below
import Derived.LaidMore
import Derived.Stop.Joined
import Derived.SevenTiedAt
namespace Go.Proofs.YtgeonppckeiceaaGreatDoor.handTurned
open Go.ChangeShapes Go.WideShapes Go.ChangeAt Go.RowKit
open Go.ChangeMaps (open_string shut_string)
open Go.Proofs.YtgeonppckeiceaaGreatDoor
set_option linter.unusedVariables false
set_option linter.unusedSimpArgs false

theorem own : ownKnob Tryz.prog.godebug = none := by kernel_rfl
theorem laidOut : laidOutB Tryz.prog = true := by kernel_rfl

abbrev laidX {H : Type} : List (String × DataW H) := [("math/bits.deBruijn32tab", Rows.laid_math_bits_deBruijn32tab), ("math/bits.deBruijn64tab", Rows.laid_math_bits_deBruijn64tab), ("internal/strconv.uint64pow10", Rows.laid_internal_strconv_uint64pow10)]
theorem door_met (os : Os) (args : Array Value) : laidMetH Tryz.prog laidX ((World.doorLaid Tryz.prog 400 os).forCall (fun _ _ => 0) ⟨#[], args, []⟩).memory :=
  laidMetH_of_parts3 (fuel := 8) (laidMet_of_run' 8 (by kernel_rfl) (by kernel_rfl)) (by kernel_rfl) (by kernel_rfl)

def qq (n : Nat) (x : Nat) : Pr := if n = 0 then ⟨15, 16, x, 6⟩ else ⟨15, 16, 5, x⟩
def isZero (o : Opd) : Bool := o.y.CK == 0 && o.y.K == 0 && o.y.H == 0 && o.y.N == 0 && o.peer == 0 && o.version == 0 && o.stamp == 0 && o.e == 0 && o.ek == 0 && o.pub == 0
def turnedB (k n x : Nat) : Bool :=
  (hBegin 5000 L18 (1, 2) pB 7 ⟨#[1]⟩ k 5 7 8 9).2.2.1 == 0 && Ms.rightM (hBegin 5000 L18 (1, 2) pB 7 ⟨#[1]⟩ k 5 7 8 9).1 &&
  (let r := hOpen 5000 (hBegin 5000 L18 (1, 2) pB 7 ⟨#[1]⟩ k 5 7 8 9).2.2.2 (3, 4) [qq n x] ⟨#[1]⟩ (hBegin 5000 L18 (1, 2) pB 7 ⟨#[1]⟩ k 5 7 8 9).1
   if k == n && x != 5 + n then r.2.1 == 9 && isZero r.1 else r.2.1 == 0 && r.1.stamp == 5 && r.1.pub == 15)
set_option maxRecDepth 100000 in
theorem turned_all : ((List.range 2).all fun k => (List.range 2).all fun n => (List.range 14).all fun x => turnedB k n (x + 1)) = true := by decide +kernel
structure Turned (k n x : Nat) (m : Mg) (pn : Pnd) (L1 : List Tm) (o : Opd) (f : Int) (L2 : List Tm) : Prop where
  c1 : hBegin 5000 L18 (1, 2) pB 7 ⟨#[1]⟩ k 5 7 8 9 = (m, pn, 0, L1)
  mw : Ms.Ms.Wf m
  c2 : hOpen 5000 L1 (3, 4) [qq n x] ⟨#[1]⟩ m = (o, f, L2)
  bad : k = n → x ≠ 5 + n → f = 9 ∧ o = zeroOpd
  good : ¬ (k = n ∧ x ≠ 5 + n) → f = 0 ∧ o.stamp = 5 ∧ o.pub = 15
theorem isZero_eq {o : Opd} (h : isZero o = true) : o = zeroOpd := by
  obtain ⟨⟨a, b, c, d⟩, e, f, g, h1, h2, h3⟩ := o
  simp only [isZero, Bool.and_eq_true, beq_iff_eq] at h
  obtain ⟨⟨⟨⟨⟨⟨⟨⟨⟨rfl, rfl⟩, rfl⟩, rfl⟩, rfl⟩, rfl⟩, rfl⟩, rfl⟩, rfl⟩, rfl⟩ := h
  rfl
theorem turned_is (k n x : Nat) (hk : k < 2) (hn : n < 2) (h1 : 1 ≤ x) (h2 : x ≤ 14) : ∃ m pn L1 o f L2, Turned k n x m pn L1 o f L2 := by
  have h := turned_all
  rw [List.all_eq_true] at h
  have h := h k (by simpa using hk)
  rw [List.all_eq_true] at h
  have h := h n (by simpa using hn)
  rw [List.all_eq_true] at h
  have h := h (x - 1) (by simp; omega)
  rw [show x - 1 + 1 = x by omega] at h
  unfold turnedB at h
  obtain ⟨m, pn, e, L1, hb⟩ : ∃ m pn e L1, hBegin 5000 L18 (1, 2) pB 7 ⟨#[1]⟩ k 5 7 8 9 = (m, pn, e, L1) := ⟨_, _, _, _, rfl⟩
  rw [hb] at h
  obtain ⟨o, f, L2, ho⟩ : ∃ o f L2, hOpen 5000 L1 (3, 4) [qq n x] ⟨#[1]⟩ m = (o, f, L2) := ⟨_, _, _, rfl⟩
  dsimp only at h
  rw [ho] at h
  dsimp only at h
  rw [Bool.and_eq_true, Bool.and_eq_true] at h
  obtain ⟨⟨he, hr⟩, h⟩ := h
  obtain rfl : e = 0 := by simpa using he
  refine ⟨m, pn, L1, o, f, L2, hb, begun_wf (by omega) (by omega) hb, ho, fun a b => ?_, fun a => ?_⟩
  · rw [if_pos (by simp [a, b])] at h
    simp only [Bool.and_eq_true, beq_iff_eq] at h
    exact ⟨h.1, isZero_eq h.2⟩
  · rw [if_neg (by simpa using a)] at h
    simp only [Bool.and_eq_true, beq_iff_eq] at h
    exact ⟨h.1.1, h.1.2, h.2⟩
set_option maxHeartbeats 4000000 in
theorem walk00b (a0 a1 a2 : Int) (w : World) (w0 : (Lit.int .u8 a0).wf = true) (w1 : (Lit.int .u8 a1).wf = true) (w2 : (Lit.int .u8 a2).wf = true) {m : Mg} {pn : Pnd} {L1 L2 : List Tm} {o : Opd} {x : Nat} (hx1 : 1 ≤ x) (hx2 : x ≤ 14) (e0 : (wrap64 a0).tmod 2 = 0) (e1 : (wrap64 a1).tmod 2 = 0) (hx : wrap64 (1 + (wrap64 a2).tmod 14) = (x : Int)) (TU : Hid (Turned 0 0 x m pn L1 zeroOpd 9 L2)) (hne : ((x : Int) != 5) = true) : Calls Tryz.prog 9 #[.int .u8 a0, .int .u8 a1, .int .u8 a2] w fun e w' => e = .returned (.bool true) ∧ Below w.heap.size w w' := by
  have gN := NoS.good w.heap.size
  go_enter Tryz.func9, Tryz.ntmps9
  go_wp2_with fail
  refine (two_k w).mono ?_
  rintro e w1 ⟨g, rfl, h1⟩
  have gP := PSq.good w.heap.size g 5000
  have HC := Lib.hid h1
  clear h1
  replace HC := Lib.hid (HC.out.boxB gP gN #[.int .i64 1, .int .i64 2, .int .i64 3, .int .i64 4] 90 (b := w1.heap.size) (by simp))
  replace HC := Lib.hid (HC.out.boxB gP gN #[.int .i64 17, .int .i64 18, .int .i64 5, .int .i64 6, .int .i64 15, .int .i64 16, .int .i64 5, .int .i64 6] 91 (b := w1.heap.size + 1) (by simp))
  go_upto_region 5 with fail
  try simp only [e0, e1]
  clear e0 e1
  obtain ⟨mef0, mef1, mef2, mef3⟩ := cell4s (HC.out.kept (w1.heap.size) (.cells #[.int .i64 1, .int .i64 2, .int .i64 3, .int .i64 4] 90 (0, 0) : Obj) (by simp))
  obtain ⟨ppf0, ppf1, ppf2, ppf3, ppf4, ppf5, ppf6, ppf7⟩ := cell8s (HC.out.kept (w1.heap.size + 1) (.cells #[.int .i64 17, .int .i64 18, .int .i64 5, .int .i64 6, .int .i64 15, .int .i64 16, .int .i64 5, .int .i64 6] 91 (0, 0) : Obj) (by simp))
  go_wp2_with fail
  clear mef0 mef1 mef2 mef3 ppf0 ppf1 ppf2 ppf3 ppf4 ppf5 ppf6 ppf7
  refine (HC.out.hbegin gN (a1 := 1) (a2 := 2) (d0 := 7) (d1 := 8) (d2 := 9) (p := pB) (m0 := mIn ⟨#[1]⟩ 0) (stamp := 5) k1 k2 pB_wf (mIn_wf (by decide) (by omega) (by omega)) (by omega) k7 k8 k9 TU.out.c1).mono ?_
  rintro e w2 ⟨rfl, h⟩
  replace HC := Lib.hid h
  clear h
  simp only [Ms.Ms.v, Ms.Ms.cl, Pnd.v]
  replace HC := Lib.hid (HC.out.boxB gP gN #[.int .i64 (m.i 0), .int .u64 (m.i 1), .int .u64 (m.i 2), .string m.s, .int .i64 (m.i 4), .int .i64 (m.i 5), .int .i64 (m.i 6), .int .i64 (m.i 7), .int .i64 (m.i 8), .int .i64 (m.i 9), .int .i64 (m.i 10), .int .u64 (m.i 11), .int .u64 (m.i 12)] 25 (b := w2.heap.size) (by simp))
  replace HC := Lib.hid (HC.out.boxB gP gN #[.int .i64 pn.y.CK, .int .i64 pn.y.K, .int .i64 pn.y.H, .int .u64 pn.y.N, .int .i64 pn.e, .int .i64 pn.ek, .string pn.offer] 47 (b := w2.heap.size + 1) (by simp))
  obtain ⟨ppf0, ppf1, ppf2, ppf3, ppf4, ppf5, ppf6, ppf7⟩ := cell8s (HC.out.kept (w1.heap.size + 1) (.cells #[.int .i64 17, .int .i64 18, .int .i64 5, .int .i64 6, .int .i64 15, .int .i64 16, .int .i64 5, .int .i64 6] 91 (0, 0) : Obj) (by simp))
  go_upto_region 8 with fail
  clear ppf0 ppf1 ppf2 ppf3 ppf4 ppf5 ppf6 ppf7
  try simp only [hx]
  replace HC := Lib.hid (HC.out.boxB gP gN #[.int .i64 15, .int .i64 16, .int .i64 x, .int .i64 6] 43 (b := w2.heap.size + 1 + 1) (by simp))
  obtain ⟨meg0, meg1, meg2, meg3⟩ := cell4s (HC.out.kept (w1.heap.size) (.cells #[.int .i64 1, .int .i64 2, .int .i64 3, .int .i64 4] 90 (0, 0) : Obj) (by simp))
  obtain ⟨qg0, qg1, qg2, qg3⟩ := cell4s (HC.out.kept (w2.heap.size + 1 + 1) (.cells #[.int .i64 15, .int .i64 16, .int .i64 x, .int .i64 6] 43 (0, 0) : Obj) (by simp))
  replace HC := Lib.hid (HC.out.boxB gP gN #[.int .i64 15, .int .i64 16, .int .i64 x, .int .i64 6] 43 (b := w2.heap.size + 1 + 1 + 1) (by simp))
  obtain ⟨mf0, mf1, mf2, mf3, mf4, mf5, mf6, mf7, mf8, mf9, mf10, mf11, mf12⟩ := cell13s (HC.out.kept (w2.heap.size) (.cells #[.int .i64 (m.i 0), .int .u64 (m.i 1), .int .u64 (m.i 2), .string m.s, .int .i64 (m.i 4), .int .i64 (m.i 5), .int .i64 (m.i 6), .int .i64 (m.i 7), .int .i64 (m.i 8), .int .i64 (m.i 9), .int .i64 (m.i 10), .int .u64 (m.i 11), .int .u64 (m.i 12)] 25 (0, 0) : Obj) (by simp))
  go_wp2_with fail
  clear meg0 meg1 meg2 meg3 qg0 qg1 qg2 qg3 mf0 mf1 mf2 mf3 mf4 mf5 mf6 mf7 mf8 mf9 mf10 mf11 mf12
  have HR : ∀ bs, ((w2.heap.size + 1 + 1 + 1, (.cells #[.int .i64 15, .int .i64 16, .int .i64 x, .int .i64 6] 43 (0, 0) : Obj)) : Nat × Obj) ∈ bs → RowB bs (some ⟨w2.heap.size + 1 + 1 + 1, 0, none⟩) [qq 0 x] := fun bs hm W hk => row_one (p := qq 0 x) (hk (w2.heap.size + 1 + 1 + 1) (.cells #[.int .i64 15, .int .i64 16, .int .i64 x, .int .i64 6] 43 (0, 0) : Obj) hm)
  refine (HC.out.hopen gN (x := 3) (y := 4) (ps := [qq 0 x]) (offer := ⟨#[1]⟩) k3 k4 (by rfl) (by decide) (HR _ (by simp)) (by simp; exact pr_wf (by omega) (by omega) (by omega) (by omega)) (by decide) TU.out.mw TU.out.c2).mono ?_
  rintro e w3 ⟨rfl, h⟩
  replace HC := Lib.hid h
  clear h HR
  simp only [Opd.v, zeroOpd, zeroY]
  replace HC := Lib.hid (HC.out.boxB gP gN #[.int .i64 0, .int .i64 0, .int .i64 0, .int .u64 0, .int .i64 0, .int .i64 0, .int .u64 0, .int .i64 0, .int .i64 0, .int .i64 0] 64 (b := w3.heap.size) (by simp))
  go_upto_region 9 with fail
  replace HC := Lib.hid (HC.out.below gP gN (Below.refl _ _).drew)
  have z1 := cell_of_row _ _ 2 _ _ _ (HC.out.kept (w2.heap.size + 1 + 1) (.cells #[.int .i64 15, .int .i64 16, .int .i64 x, .int .i64 6] 43 (0, 0) : Obj) (by simp))
  have z2 := cell_of_row _ _ 6 _ _ _ (HC.out.kept (w1.heap.size + 1) (.cells #[.int .i64 17, .int .i64 18, .int .i64 5, .int .i64 6, .int .i64 15, .int .i64 16, .int .i64 5, .int .i64 6] 91 (0, 0) : Obj) (by simp))
  simp at z1 z2
  refine wp_region_held_drew (S := (fun W => W.cell? ⟨w2.heap.size + 1 + 1, 2, none⟩ = some (.int .i64 x) ∧ W.cell? ⟨w1.heap.size + 1, 6, none⟩ = some (.int .i64 5))) (by kernel_rfl) (⟨by simpa using z1, by simpa using z2⟩) (fun hHeld => ?_)
  refine tk1 0 (oi := ?o1) (v := ?v1) ?i1 ?w1 ?y1 ?r1
  case' i1 => simp only [g1, g2, g3]
  case i1 => rfl
  case w1 => kernel_rfl
  case y1 => (intro W hSw; go_simp) <;> with_reducible rfl
  try simp only [Act.put, p1, p2, p3]
  refine tk1 1 (oi := ?o2) (v := ?v2) ?i2 ?w2 ?y2 ?r2
  case' i2 => simp only [g1, g2, g3]
  case i2 => rfl
  case w2 => kernel_rfl
  case y2 => (intro W hSw; go_simp) <;> with_reducible rfl
  try simp only [Act.put, p1, p2, p3]
  refine tk1 2 (oi := ?o3) (v := ?v3) ?i3 ?w3 ?y3 ?r3
  case' i3 => simp only [g1, g2, g3]
  case i3 => rfl
  case w3 => kernel_rfl
  case y3 => (intro W hSw; go_simp) <;> with_reducible rfl
  try simp only [Act.put, p1, p2, p3]
  refine tk1 3 (oi := ?o4) (v := ?v4) ?i4 ?w4 ?y4 ?r4
  case' i4 => simp only [g1, g2, g3]
  case i4 => rfl
  case w4 => kernel_rfl
  case y4 => (intro W hSw; go_simp) <;> with_reducible rfl
  try simp only [Act.put, p1, p2, p3]
  refine tk1 4 (oi := ?o5) (v := ?v5) ?i5 ?w5 ?y5 ?r5
  case' i5 => simp only [g1, g2, g3]
  case i5 => rfl
  case w5 => kernel_rfl
  case y5 => (intro W hSw; go_simp) <;> with_reducible rfl
  try simp only [Act.put, p1, p2, p3]
  refine tk1 5 (oi := ?o6) (v := ?v6) ?i6 ?w6 ?y6 ?r6
  case' i6 => simp only [g1, g2, g3]
  case i6 => rfl
  case w6 => kernel_rfl
  case y6 => (intro W hSw; go_simp) <;> with_reducible rfl
  try simp only [Act.put, p1, p2, p3]
  refine tk1 6 (oi := ?o7) (v := ?v7) ?i7 ?w7 ?y7 ?r7
  case' i7 => simp only [g1, g2, g3]
  case i7 => rfl
  case w7 => kernel_rfl
  case y7 => (intro W hSw; go_simp) <;> with_reducible rfl
  try simp only [Act.put, p1, p2, p3]
  refine tk1 7 (oi := ?o8) (v := ?v8) ?i8 ?w8 ?y8 ?r8
  case' i8 => simp only [g1, g2, g3]
  case i8 => rfl
  case w8 => kernel_rfl
  case y8 => (intro W hSw; obtain ⟨z1, z2⟩ := hSw; go_simp) <;> with_reducible rfl
  try simp only [Act.put, p1, p2, p3]
  refine tk1 8 (oi := ?o9) (v := ?v9) ?i9 ?w9 ?y9 ?r9
  case' i9 => simp only [g1, g2, g3]
  case i9 => rfl
  case w9 => kernel_rfl
  case y9 => (intro W hSw; go_simp) <;> with_reducible rfl
  try simp only [Act.put, p1, p2, p3]
  refine tk1 9 (oi := ?o10) (v := ?v10) ?i10 ?w10 ?y10 ?r10
  case' i10 => simp only [g1, g2, g3]
  case i10 => rfl
  case w10 => kernel_rfl
  case y10 => (intro W hSw; go_simp) <;> with_reducible rfl
  try simp only [Act.put, p1, p2, p3]
  refine tk1 10 (oi := ?o11) (v := ?v11) ?i11 ?w11 ?y11 ?r11
  case' i11 => simp only [g1, g2, g3]
  case i11 => rfl
  case w11 => kernel_rfl
  case y11 => (intro W hSw; go_simp) <;> with_reducible rfl
  try simp only [Act.put, p1, p2, p3]
  refine tk1 11 (oi := ?o12) (v := ?v12) ?i12 ?w12 ?y12 ?r12
  case' i12 => simp only [g1, g2, g3]
  case i12 => rfl
  case w12 => kernel_rfl
  case y12 => (intro W hSw; go_simp) <;> with_reducible rfl
  try simp only [Act.put, p1, p2, p3]
  refine tk1 12 (oi := ?o13) (v := ?v13) ?i13 ?w13 ?y13 ?r13
  case' i13 => simp only [g1, g2, g3]
  case i13 => rfl
  case w13 => kernel_rfl
  case y13 => (intro W hSw; obtain ⟨z1, z2⟩ := hSw; go_simp) <;> with_reducible rfl
  try simp only [Act.put, p1, p2, p3]
  refine tk1 13 (oi := ?o14) (v := ?v14) ?i14 ?w14 ?y14 ?r14
  case' i14 => simp only [g1, g2, g3]
  case i14 => rfl
  case w14 => kernel_rfl
  case y14 => (intro W hSw; go_simp) <;> with_reducible rfl
  try simp only [Act.put, p1, p2, p3]
  refine tk1 14 (oi := ?o15) (v := ?v15) ?i15 ?w15 ?y15 ?r15
  case' i15 => simp only [g1, g2, g3]
  case i15 => rfl
  case w15 => kernel_rfl
  case y15 => (intro W hSw; go_simp) <;> with_reducible rfl
  try simp only [Act.put, p1, p2, p3]
  refine wpAnyH_done (by kernel_rfl) ?_ _
  clear z1 z2 hHeld
  obtain ⟨of0, of1, of2, of3, of4, of5, of6, of7, of8, of9⟩ := cell10s (HC.out.kept (w3.heap.size) (.cells #[.int .i64 0, .int .i64 0, .int .i64 0, .int .u64 0, .int .i64 0, .int .i64 0, .int .u64 0, .int .i64 0, .int .i64 0, .int .i64 0] 64 (0, 0) : Obj) (by simp))
  obtain ⟨ppf0, ppf1, ppf2, ppf3, ppf4, ppf5, ppf6, ppf7⟩ := cell8s (HC.out.kept (w1.heap.size + 1) (.cells #[.int .i64 17, .int .i64 18, .int .i64 5, .int .i64 6, .int .i64 15, .int .i64 16, .int .i64 5, .int .i64 6] 91 (0, 0) : Obj) (by simp))
  go_wp2_with fail
  clear of0 of1 of2 of3 of4 of5 of6 of7 of8 of9 ppf0 ppf1 ppf2 ppf3 ppf4 ppf5 ppf6 ppf7
  refine (fixed_any _).mono ?_
  rintro e w' ⟨rfl, hb⟩
  go_wp2_with fail
  go_ret
  exact ⟨rfl, HC.out.low.trans (hb.mono HC.out.low.size)⟩
set_option maxHeartbeats 4000000 in
theorem walk00g (a0 a1 a2 : Int) (w : World) (w0 : (Lit.int .u8 a0).wf = true) (w1 : (Lit.int .u8 a1).wf = true) (w2 : (Lit.int .u8 a2).wf = true) {m : Mg} {pn : Pnd} {L1 L2 : List Tm} {o : Opd} (e0 : (wrap64 a0).tmod 2 = 0) (e1 : (wrap64 a1).tmod 2 = 0) (hx : wrap64 (1 + (wrap64 a2).tmod 14) = 5) (TU : Hid (Turned 0 0 5 m pn L1 o 0 L2)) (ho1 : o.stamp = 5) (ho2 : o.pub = 15) : Calls Tryz.prog 9 #[.int .u8 a0, .int .u8 a1, .int .u8 a2] w fun e w' => e = .returned (.bool true) ∧ Below w.heap.size w w' := by
  have gN := NoS.good w.heap.size
  go_enter Tryz.func9, Tryz.ntmps9
  go_wp2_with fail
  refine (two_k w).mono ?_
  rintro e w1 ⟨g, rfl, h1⟩
  have gP := PSq.good w.heap.size g 5000
  have HC := Lib.hid h1
  clear h1
  replace HC := Lib.hid (HC.out.boxB gP gN #[.int .i64 1, .int .i64 2, .int .i64 3, .int .i64 4] 90 (b := w1.heap.size) (by simp))
  replace HC := Lib.hid (HC.out.boxB gP gN #[.int .i64 17, .int .i64 18, .int .i64 5, .int .i64 6, .int .i64 15, .int .i64 16, .int .i64 5, .int .i64 6] 91 (b := w1.heap.size + 1) (by simp))
  go_upto_region 5 with fail
  try simp only [e0, e1]
  clear e0 e1
  obtain ⟨mef0, mef1, mef2, mef3⟩ := cell4s (HC.out.kept (w1.heap.size) (.cells #[.int .i64 1, .int .i64 2, .int .i64 3, .int .i64 4] 90 (0, 0) : Obj) (by simp))
  obtain ⟨ppf0, ppf1, ppf2, ppf3, ppf4, ppf5, ppf6, ppf7⟩ := cell8s (HC.out.kept (w1.heap.size + 1) (.cells #[.int .i64 17, .int .i64 18, .int .i64 5, .int .i64 6, .int .i64 15, .int .i64 16, .int .i64 5, .int .i64 6] 91 (0, 0) : Obj) (by simp))
  go_wp2_with fail
  clear mef0 mef1 mef2 mef3 ppf0 ppf1 ppf2 ppf3 ppf4 ppf5 ppf6 ppf7
  refine (HC.out.hbegin gN (a1 := 1) (a2 := 2) (d0 := 7) (d1 := 8) (d2 := 9) (p := pB) (m0 := mIn ⟨#[1]⟩ 0) (stamp := 5) k1 k2 pB_wf (mIn_wf (by decide) (by omega) (by omega)) (by omega) k7 k8 k9 TU.out.c1).mono ?_
  rintro e w2 ⟨rfl, h⟩
  replace HC := Lib.hid h
  clear h
  simp only [Ms.Ms.v, Ms.Ms.cl, Pnd.v]
  replace HC := Lib.hid (HC.out.boxB gP gN #[.int .i64 (m.i 0), .int .u64 (m.i 1), .int .u64 (m.i 2), .string m.s, .int .i64 (m.i 4), .int .i64 (m.i 5), .int .i64 (m.i 6), .int .i64 (m.i 7), .int .i64 (m.i 8), .int .i64 (m.i 9), .int .i64 (m.i 10), .int .u64 (m.i 11), .int .u64 (m.i 12)] 25 (b := w2.heap.size) (by simp))
  replace HC := Lib.hid (HC.out.boxB gP gN #[.int .i64 pn.y.CK, .int .i64 pn.y.K, .int .i64 pn.y.H, .int .u64 pn.y.N, .int .i64 pn.e, .int .i64 pn.ek, .string pn.offer] 47 (b := w2.heap.size + 1) (by simp))
  obtain ⟨ppf0, ppf1, ppf2, ppf3, ppf4, ppf5, ppf6, ppf7⟩ := cell8s (HC.out.kept (w1.heap.size + 1) (.cells #[.int .i64 17, .int .i64 18, .int .i64 5, .int .i64 6, .int .i64 15, .int .i64 16, .int .i64 5, .int .i64 6] 91 (0, 0) : Obj) (by simp))
  go_upto_region 8 with fail
  clear ppf0 ppf1 ppf2 ppf3 ppf4 ppf5 ppf6 ppf7
  try simp only [hx]
  replace HC := Lib.hid (HC.out.boxB gP gN #[.int .i64 15, .int .i64 16, .int .i64 5, .int .i64 6] 43 (b := w2.heap.size + 1 + 1) (by simp))
  obtain ⟨meg0, meg1, meg2, meg3⟩ := cell4s (HC.out.kept (w1.heap.size) (.cells #[.int .i64 1, .int .i64 2, .int .i64 3, .int .i64 4] 90 (0, 0) : Obj) (by simp))
  obtain ⟨qg0, qg1, qg2, qg3⟩ := cell4s (HC.out.kept (w2.heap.size + 1 + 1) (.cells #[.int .i64 15, .int .i64 16, .int .i64 5, .int .i64 6] 43 (0, 0) : Obj) (by simp))
  replace HC := Lib.hid (HC.out.boxB gP gN #[.int .i64 15, .int .i64 16, .int .i64 5, .int .i64 6] 43 (b := w2.heap.size + 1 + 1 + 1) (by simp))
  obtain ⟨mf0, mf1, mf2, mf3, mf4, mf5, mf6, mf7, mf8, mf9, mf10, mf11, mf12⟩ := cell13s (HC.out.kept (w2.heap.size) (.cells #[.int .i64 (m.i 0), .int .u64 (m.i 1), .int .u64 (m.i 2), .string m.s, .int .i64 (m.i 4), .int .i64 (m.i 5), .int .i64 (m.i 6), .int .i64 (m.i 7), .int .i64 (m.i 8), .int .i64 (m.i 9), .int .i64 (m.i 10), .int .u64 (m.i 11), .int .u64 (m.i 12)] 25 (0, 0) : Obj) (by simp))
  go_wp2_with fail
  clear meg0 meg1 meg2 meg3 qg0 qg1 qg2 qg3 mf0 mf1 mf2 mf3 mf4 mf5 mf6 mf7 mf8 mf9 mf10 mf11 mf12
  have HR : ∀ bs, ((w2.heap.size + 1 + 1 + 1, (.cells #[.int .i64 15, .int .i64 16, .int .i64 5, .int .i64 6] 43 (0, 0) : Obj)) : Nat × Obj) ∈ bs → RowB bs (some ⟨w2.heap.size + 1 + 1 + 1, 0, none⟩) [qq 0 5] := fun bs hm W hk => row_one (p := qq 0 5) (hk (w2.heap.size + 1 + 1 + 1) (.cells #[.int .i64 15, .int .i64 16, .int .i64 5, .int .i64 6] 43 (0, 0) : Obj) hm)
  refine (HC.out.hopen gN (x := 3) (y := 4) (ps := [qq 0 5]) (offer := ⟨#[1]⟩) k3 k4 (by rfl) (by decide) (HR _ (by simp)) (by simp; exact pr_wf (by omega) (by omega) (by omega) (by omega)) (by decide) TU.out.mw TU.out.c2).mono ?_
  rintro e w3 ⟨rfl, h⟩
  replace HC := Lib.hid h
  clear h HR
  simp only [Opd.v, ho1, ho2]
  clear ho1 ho2
  replace HC := Lib.hid (HC.out.boxB gP gN #[.int .i64 o.y.CK, .int .i64 o.y.K, .int .i64 o.y.H, .int .u64 o.y.N, .int .i64 o.peer, .int .i64 o.version, .int .u64 5, .int .i64 o.e, .int .i64 o.ek, .int .i64 15] 64 (b := w3.heap.size) (by simp))
  go_upto_region 9 with fail
  replace HC := Lib.hid (HC.out.below gP gN (Below.refl _ _).drew)
  have z1 := cell_of_row _ _ 2 _ _ _ (HC.out.kept (w2.heap.size + 1 + 1) (.cells #[.int .i64 15, .int .i64 16, .int .i64 5, .int .i64 6] 43 (0, 0) : Obj) (by simp))
  have z2 := cell_of_row _ _ 6 _ _ _ (HC.out.kept (w1.heap.size + 1) (.cells #[.int .i64 17, .int .i64 18, .int .i64 5, .int .i64 6, .int .i64 15, .int .i64 16, .int .i64 5, .int .i64 6] 91 (0, 0) : Obj) (by simp))
  simp at z1 z2
  refine wp_region_held_drew (S := (fun W => W.cell? ⟨w2.heap.size + 1 + 1, 2, none⟩ = some (.int .i64 5) ∧ W.cell? ⟨w1.heap.size + 1, 6, none⟩ = some (.int .i64 5))) (by kernel_rfl) (⟨by simpa using z1, by simpa using z2⟩) (fun hHeld => ?_)
  refine tk1 0 (oi := ?o16) (v := ?v16) ?i16 ?w16 ?y16 ?r16
  case' i16 => simp only [g1, g2, g3]
  case i16 => rfl
  case w16 => kernel_rfl
  case y16 => (intro W hSw; go_simp) <;> with_reducible rfl
  try simp only [Act.put, p1, p2, p3]
  refine tk1 1 (oi := ?o17) (v := ?v17) ?i17 ?w17 ?y17 ?r17
  case' i17 => simp only [g1, g2, g3]
  case i17 => rfl
  case w17 => kernel_rfl
  case y17 => (intro W hSw; go_simp) <;> with_reducible rfl
  try simp only [Act.put, p1, p2, p3]
  refine tk1 2 (oi := ?o18) (v := ?v18) ?i18 ?w18 ?y18 ?r18
  case' i18 => simp only [g1, g2, g3]
  case i18 => rfl
  case w18 => kernel_rfl
  case y18 => (intro W hSw; go_simp) <;> with_reducible rfl
  try simp only [Act.put, p1, p2, p3]
  refine tk1 3 (oi := ?o19) (v := ?v19) ?i19 ?w19 ?y19 ?r19
  case' i19 => simp only [g1, g2, g3]
  case i19 => rfl
  case w19 => kernel_rfl
  case y19 => (intro W hSw; go_simp) <;> with_reducible rfl
  try simp only [Act.put, p1, p2, p3]
  refine tk1 4 (oi := ?o20) (v := ?v20) ?i20 ?w20 ?y20 ?r20
  case' i20 => simp only [g1, g2, g3]
  case i20 => rfl
  case w20 => kernel_rfl
  case y20 => (intro W hSw; go_simp) <;> with_reducible rfl
  try simp only [Act.put, p1, p2, p3]
  refine tk1 5 (oi := ?o21) (v := ?v21) ?i21 ?w21 ?y21 ?r21
  case' i21 => simp only [g1, g2, g3]
  case i21 => rfl
  case w21 => kernel_rfl
  case y21 => (intro W hSw; go_simp) <;> with_reducible rfl
  try simp only [Act.put, p1, p2, p3]
  refine tk1 6 (oi := ?o22) (v := ?v22) ?i22 ?w22 ?y22 ?r22
  case' i22 => simp only [g1, g2, g3]
  case i22 => rfl
  case w22 => kernel_rfl
  case y22 => (intro W hSw; go_simp) <;> with_reducible rfl
  try simp only [Act.put, p1, p2, p3]
  refine tk1 7 (oi := ?o23) (v := ?v23) ?i23 ?w23 ?y23 ?r23
  case' i23 => simp only [g1, g2, g3]
  case i23 => rfl
  case w23 => kernel_rfl
  case y23 => (intro W hSw; obtain ⟨z1, z2⟩ := hSw; go_simp) <;> with_reducible rfl
  try simp only [Act.put, p1, p2, p3]
  refine tk1 8 (oi := ?o24) (v := ?v24) ?i24 ?w24 ?y24 ?r24
  case' i24 => simp only [g1, g2, g3]
  case i24 => rfl
  case w24 => kernel_rfl
  case y24 => (intro W hSw; go_simp) <;> with_reducible rfl
  try simp only [Act.put, p1, p2, p3]
  refine tk1 9 (oi := ?o25) (v := ?v25) ?i25 ?w25 ?y25 ?r25
  case' i25 => simp only [g1, g2, g3]
  case i25 => rfl
  case w25 => kernel_rfl
  case y25 => (intro W hSw; go_simp) <;> with_reducible rfl
  try simp only [Act.put, p1, p2, p3]
  refine tk1 10 (oi := ?o26) (v := ?v26) ?i26 ?w26 ?y26 ?r26
  case' i26 => simp only [g1, g2, g3]
  case i26 => rfl
  case w26 => kernel_rfl
  case y26 => (intro W hSw; go_simp) <;> with_reducible rfl
  try simp only [Act.put, p1, p2, p3]
  refine tk1 11 (oi := ?o27) (v := ?v27) ?i27 ?w27 ?y27 ?r27
  case' i27 => simp only [g1, g2, g3]
  case i27 => rfl
  case w27 => kernel_rfl
  case y27 => (intro W hSw; go_simp) <;> with_reducible rfl
  try simp only [Act.put, p1, p2, p3]
  refine tk1 12 (oi := ?o28) (v := ?v28) ?i28 ?w28 ?y28 ?r28
  case' i28 => simp only [g1, g2, g3]
  case i28 => rfl
  case w28 => kernel_rfl
  case y28 => (intro W hSw; obtain ⟨z1, z2⟩ := hSw; go_simp) <;> with_reducible rfl
  try simp only [Act.put, p1, p2, p3]
  refine tk1 13 (oi := ?o29) (v := ?v29) ?i29 ?w29 ?y29 ?r29
  case' i29 => simp only [g1, g2, g3]
  case i29 => rfl
  case w29 => kernel_rfl
  case y29 => (intro W hSw; go_simp) <;> with_reducible rfl
  try simp only [Act.put, p1, p2, p3]
  refine tk1 14 (oi := ?o30) (v := ?v30) ?i30 ?w30 ?y30 ?r30
  case' i30 => simp only [g1, g2, g3]
  case i30 => rfl
  case w30 => kernel_rfl
  case y30 => (intro W hSw; go_simp) <;> with_reducible rfl
  try simp only [Act.put, p1, p2, p3]
  refine wpAnyH_done (by kernel_rfl) ?_ _
  clear z1 z2 hHeld
  obtain ⟨of0, of1, of2, of3, of4, of5, of6, of7, of8, of9⟩ := cell10s (HC.out.kept (w3.heap.size) (.cells #[.int .i64 o.y.CK, .int .i64 o.y.K, .int .i64 o.y.H, .int .u64 o.y.N, .int .i64 o.peer, .int .i64 o.version, .int .u64 5, .int .i64 o.e, .int .i64 o.ek, .int .i64 15] 64 (0, 0) : Obj) (by simp))
  obtain ⟨ppf0, ppf1, ppf2, ppf3, ppf4, ppf5, ppf6, ppf7⟩ := cell8s (HC.out.kept (w1.heap.size + 1) (.cells #[.int .i64 17, .int .i64 18, .int .i64 5, .int .i64 6, .int .i64 15, .int .i64 16, .int .i64 5, .int .i64 6] 91 (0, 0) : Obj) (by simp))
  go_wp2_with fail
  clear of0 of1 of2 of3 of4 of5 of6 of7 of8 of9 ppf0 ppf1 ppf2 ppf3 ppf4 ppf5 ppf6 ppf7
  refine (fixed_any _).mono ?_
  rintro e w' ⟨rfl, hb⟩
  go_wp2_with fail
  go_ret
  exact ⟨rfl, HC.out.low.trans (hb.mono HC.out.low.size)⟩
set_option maxHeartbeats 4000000 in
theorem walk11b (a0 a1 a2 : Int) (w : World) (w0 : (Lit.int .u8 a0).wf = true) (w1 : (Lit.int .u8 a1).wf = true) (w2 : (Lit.int .u8 a2).wf = true) {m : Mg} {pn : Pnd} {L1 L2 : List Tm} {o : Opd} {x : Nat} (hx1 : 1 ≤ x) (hx2 : x ≤ 14) (e0 : (wrap64 a0).tmod 2 = 1) (e1 : (wrap64 a1).tmod 2 = 1) (hx : wrap64 (1 + (wrap64 a2).tmod 14) = (x : Int)) (TU : Hid (Turned 1 1 x m pn L1 zeroOpd 9 L2)) (hne : ((x : Int) != 6) = true) : Calls Tryz.prog 9 #[.int .u8 a0, .int .u8 a1, .int .u8 a2] w fun e w' => e = .returned (.bool true) ∧ Below w.heap.size w w' := by
  have gN := NoS.good w.heap.size
  go_enter Tryz.func9, Tryz.ntmps9
  go_wp2_with fail
  refine (two_k w).mono ?_
  rintro e w1 ⟨g, rfl, h1⟩
  have gP := PSq.good w.heap.size g 5000
  have HC := Lib.hid h1
  clear h1
  replace HC := Lib.hid (HC.out.boxB gP gN #[.int .i64 1, .int .i64 2, .int .i64 3, .int .i64 4] 90 (b := w1.heap.size) (by simp))
  replace HC := Lib.hid (HC.out.boxB gP gN #[.int .i64 17, .int .i64 18, .int .i64 5, .int .i64 6, .int .i64 15, .int .i64 16, .int .i64 5, .int .i64 6] 91 (b := w1.heap.size + 1) (by simp))
  go_upto_region 5 with fail
  try simp only [e0, e1]
  clear e0 e1
  obtain ⟨mef0, mef1, mef2, mef3⟩ := cell4s (HC.out.kept (w1.heap.size) (.cells #[.int .i64 1, .int .i64 2, .int .i64 3, .int .i64 4] 90 (0, 0) : Obj) (by simp))
  obtain ⟨ppf0, ppf1, ppf2, ppf3, ppf4, ppf5, ppf6, ppf7⟩ := cell8s (HC.out.kept (w1.heap.size + 1) (.cells #[.int .i64 17, .int .i64 18, .int .i64 5, .int .i64 6, .int .i64 15, .int .i64 16, .int .i64 5, .int .i64 6] 91 (0, 0) : Obj) (by simp))
  go_wp2_with fail
  clear mef0 mef1 mef2 mef3 ppf0 ppf1 ppf2 ppf3 ppf4 ppf5 ppf6 ppf7
  refine (HC.out.hbegin gN (a1 := 1) (a2 := 2) (d0 := 7) (d1 := 8) (d2 := 9) (p := pB) (m0 := mIn ⟨#[1]⟩ 1) (stamp := 5) k1 k2 pB_wf (mIn_wf (by decide) (by omega) (by omega)) (by omega) k7 k8 k9 TU.out.c1).mono ?_
  rintro e w2 ⟨rfl, h⟩
  replace HC := Lib.hid h
  clear h
  simp only [Ms.Ms.v, Ms.Ms.cl, Pnd.v]
  replace HC := Lib.hid (HC.out.boxB gP gN #[.int .i64 (m.i 0), .int .u64 (m.i 1), .int .u64 (m.i 2), .string m.s, .int .i64 (m.i 4), .int .i64 (m.i 5), .int .i64 (m.i 6), .int .i64 (m.i 7), .int .i64 (m.i 8), .int .i64 (m.i 9), .int .i64 (m.i 10), .int .u64 (m.i 11), .int .u64 (m.i 12)] 25 (b := w2.heap.size) (by simp))
  replace HC := Lib.hid (HC.out.boxB gP gN #[.int .i64 pn.y.CK, .int .i64 pn.y.K, .int .i64 pn.y.H, .int .u64 pn.y.N, .int .i64 pn.e, .int .i64 pn.ek, .string pn.offer] 47 (b := w2.heap.size + 1) (by simp))
  obtain ⟨ppf0, ppf1, ppf2, ppf3, ppf4, ppf5, ppf6, ppf7⟩ := cell8s (HC.out.kept (w1.heap.size + 1) (.cells #[.int .i64 17, .int .i64 18, .int .i64 5, .int .i64 6, .int .i64 15, .int .i64 16, .int .i64 5, .int .i64 6] 91 (0, 0) : Obj) (by simp))
  go_upto_region 8 with fail
  clear ppf0 ppf1 ppf2 ppf3 ppf4 ppf5 ppf6 ppf7
  try simp only [hx]
  replace HC := Lib.hid (HC.out.boxB gP gN #[.int .i64 15, .int .i64 16, .int .i64 5, .int .i64 x] 43 (b := w2.heap.size + 1 + 1) (by simp))
  obtain ⟨meg0, meg1, meg2, meg3⟩ := cell4s (HC.out.kept (w1.heap.size) (.cells #[.int .i64 1, .int .i64 2, .int .i64 3, .int .i64 4] 90 (0, 0) : Obj) (by simp))
  obtain ⟨qg0, qg1, qg2, qg3⟩ := cell4s (HC.out.kept (w2.heap.size + 1 + 1) (.cells #[.int .i64 15, .int .i64 16, .int .i64 5, .int .i64 x] 43 (0, 0) : Obj) (by simp))
  replace HC := Lib.hid (HC.out.boxB gP gN #[.int .i64 15, .int .i64 16, .int .i64 5, .int .i64 x] 43 (b := w2.heap.size + 1 + 1 + 1) (by simp))
  obtain ⟨mf0, mf1, mf2, mf3, mf4, mf5, mf6, mf7, mf8, mf9, mf10, mf11, mf12⟩ := cell13s (HC.out.kept (w2.heap.size) (.cells #[.int .i64 (m.i 0), .int .u64 (m.i 1), .int .u64 (m.i 2), .string m.s, .int .i64 (m.i 4), .int .i64 (m.i 5), .int .i64 (m.i 6), .int .i64 (m.i 7), .int .i64 (m.i 8), .int .i64 (m.i 9), .int .i64 (m.i 10), .int .u64 (m.i 11), .int .u64 (m.i 12)] 25 (0, 0) : Obj) (by simp))
  go_wp2_with fail
  clear meg0 meg1 meg2 meg3 qg0 qg1 qg2 qg3 mf0 mf1 mf2 mf3 mf4 mf5 mf6 mf7 mf8 mf9 mf10 mf11 mf12
  have HR : ∀ bs, ((w2.heap.size + 1 + 1 + 1, (.cells #[.int .i64 15, .int .i64 16, .int .i64 5, .int .i64 x] 43 (0, 0) : Obj)) : Nat × Obj) ∈ bs → RowB bs (some ⟨w2.heap.size + 1 + 1 + 1, 0, none⟩) [qq 1 x] := fun bs hm W hk => row_one (p := qq 1 x) (hk (w2.heap.size + 1 + 1 + 1) (.cells #[.int .i64 15, .int .i64 16, .int .i64 5, .int .i64 x] 43 (0, 0) : Obj) hm)
  refine (HC.out.hopen gN (x := 3) (y := 4) (ps := [qq 1 x]) (offer := ⟨#[1]⟩) k3 k4 (by rfl) (by decide) (HR _ (by simp)) (by simp; exact pr_wf (by omega) (by omega) (by omega) (by omega)) (by decide) TU.out.mw TU.out.c2).mono ?_
  rintro e w3 ⟨rfl, h⟩
  replace HC := Lib.hid h
  clear h HR
  simp only [Opd.v, zeroOpd, zeroY]
  replace HC := Lib.hid (HC.out.boxB gP gN #[.int .i64 0, .int .i64 0, .int .i64 0, .int .u64 0, .int .i64 0, .int .i64 0, .int .u64 0, .int .i64 0, .int .i64 0, .int .i64 0] 64 (b := w3.heap.size) (by simp))
  go_upto_region 9 with fail
  replace HC := Lib.hid (HC.out.below gP gN (Below.refl _ _).drew)
  have z1 := cell_of_row _ _ 3 _ _ _ (HC.out.kept (w2.heap.size + 1 + 1) (.cells #[.int .i64 15, .int .i64 16, .int .i64 5, .int .i64 x] 43 (0, 0) : Obj) (by simp))
  have z2 := cell_of_row _ _ 7 _ _ _ (HC.out.kept (w1.heap.size + 1) (.cells #[.int .i64 17, .int .i64 18, .int .i64 5, .int .i64 6, .int .i64 15, .int .i64 16, .int .i64 5, .int .i64 6] 91 (0, 0) : Obj) (by simp))
  simp at z1 z2
  refine wp_region_held_drew (S := (fun W => W.cell? ⟨w2.heap.size + 1 + 1, 3, none⟩ = some (.int .i64 x) ∧ W.cell? ⟨w1.heap.size + 1, 7, none⟩ = some (.int .i64 6))) (by kernel_rfl) (⟨by simpa using z1, by simpa using z2⟩) (fun hHeld => ?_)
  refine tk1 0 (oi := ?o31) (v := ?v31) ?i31 ?w31 ?y31 ?r31
  case' i31 => simp only [g1, g2, g3]
  case i31 => rfl
  case w31 => kernel_rfl
  case y31 => (intro W hSw; go_simp) <;> with_reducible rfl
  try simp only [Act.put, p1, p2, p3]
  refine tk1 1 (oi := ?o32) (v := ?v32) ?i32 ?w32 ?y32 ?r32
  case' i32 => simp only [g1, g2, g3]
  case i32 => rfl
  case w32 => kernel_rfl
  case y32 => (intro W hSw; go_simp) <;> with_reducible rfl
  try simp only [Act.put, p1, p2, p3]
  refine tk1 2 (oi := ?o33) (v := ?v33) ?i33 ?w33 ?y33 ?r33
  case' i33 => simp only [g1, g2, g3]
  case i33 => rfl
  case w33 => kernel_rfl
  case y33 => (intro W hSw; go_simp) <;> with_reducible rfl
  try simp only [Act.put, p1, p2, p3]
  refine tk1 3 (oi := ?o34) (v := ?v34) ?i34 ?w34 ?y34 ?r34
  case' i34 => simp only [g1, g2, g3]
  case i34 => rfl
  case w34 => kernel_rfl
  case y34 => (intro W hSw; go_simp) <;> with_reducible rfl
  try simp only [Act.put, p1, p2, p3]
  refine tk1 4 (oi := ?o35) (v := ?v35) ?i35 ?w35 ?y35 ?r35
  case' i35 => simp only [g1, g2, g3]
  case i35 => rfl
  case w35 => kernel_rfl
  case y35 => (intro W hSw; go_simp) <;> with_reducible rfl
  try simp only [Act.put, p1, p2, p3]
  refine tk1 5 (oi := ?o36) (v := ?v36) ?i36 ?w36 ?y36 ?r36
  case' i36 => simp only [g1, g2, g3]
  case i36 => rfl
  case w36 => kernel_rfl
  case y36 => (intro W hSw; go_simp) <;> with_reducible rfl
  try simp only [Act.put, p1, p2, p3]
  refine tk1 6 (oi := ?o37) (v := ?v37) ?i37 ?w37 ?y37 ?r37
  case' i37 => simp only [g1, g2, g3]
  case i37 => rfl
  case w37 => kernel_rfl
  case y37 => (intro W hSw; go_simp) <;> with_reducible rfl
  try simp only [Act.put, p1, p2, p3]
  refine tk1 7 (oi := ?o38) (v := ?v38) ?i38 ?w38 ?y38 ?r38
  case' i38 => simp only [g1, g2, g3]
  case i38 => rfl
  case w38 => kernel_rfl
  case y38 => (intro W hSw; obtain ⟨z1, z2⟩ := hSw; go_simp) <;> with_reducible rfl
  try simp only [Act.put, p1, p2, p3]
  refine tk1 8 (oi := ?o39) (v := ?v39) ?i39 ?w39 ?y39 ?r39
  case' i39 => simp only [g1, g2, g3]
  case i39 => rfl
  case w39 => kernel_rfl
  case y39 => (intro W hSw; go_simp) <;> with_reducible rfl
  try simp only [Act.put, p1, p2, p3]
  refine tk1 9 (oi := ?o40) (v := ?v40) ?i40 ?w40 ?y40 ?r40
  case' i40 => simp only [g1, g2, g3]
  case i40 => rfl
  case w40 => kernel_rfl
  case y40 => (intro W hSw; go_simp) <;> with_reducible rfl
  try simp only [Act.put, p1, p2, p3]
  refine tk1 10 (oi := ?o41) (v := ?v41) ?i41 ?w41 ?y41 ?r41
  case' i41 => simp only [g1, g2, g3]
  case i41 => rfl
  case w41 => kernel_rfl
  case y41 => (intro W hSw; go_simp) <;> with_reducible rfl
  try simp only [Act.put, p1, p2, p3]
  refine tk1 11 (oi := ?o42) (v := ?v42) ?i42 ?w42 ?y42 ?r42
  case' i42 => simp only [g1, g2, g3]
  case i42 => rfl
  case w42 => kernel_rfl
  case y42 => (intro W hSw; go_simp) <;> with_reducible rfl
  try simp only [Act.put, p1, p2, p3]
  refine tk1 12 (oi := ?o43) (v := ?v43) ?i43 ?w43 ?y43 ?r43
  case' i43 => simp only [g1, g2, g3]
  case i43 => rfl
  case w43 => kernel_rfl
  case y43 => (intro W hSw; obtain ⟨z1, z2⟩ := hSw; go_simp) <;> with_reducible rfl
  try simp only [Act.put, p1, p2, p3]
  refine tk1 13 (oi := ?o44) (v := ?v44) ?i44 ?w44 ?y44 ?r44
  case' i44 => simp only [g1, g2, g3]
  case i44 => rfl
  case w44 => kernel_rfl
  case y44 => (intro W hSw; go_simp) <;> with_reducible rfl
  try simp only [Act.put, p1, p2, p3]
  refine tk1 14 (oi := ?o45) (v := ?v45) ?i45 ?w45 ?y45 ?r45
  case' i45 => simp only [g1, g2, g3]
  case i45 => rfl
  case w45 => kernel_rfl
  case y45 => (intro W hSw; go_simp) <;> with_reducible rfl
  try simp only [Act.put, p1, p2, p3]
  refine wpAnyH_done (by kernel_rfl) ?_ _
  clear z1 z2 hHeld
  obtain ⟨of0, of1, of2, of3, of4, of5, of6, of7, of8, of9⟩ := cell10s (HC.out.kept (w3.heap.size) (.cells #[.int .i64 0, .int .i64 0, .int .i64 0, .int .u64 0, .int .i64 0, .int .i64 0, .int .u64 0, .int .i64 0, .int .i64 0, .int .i64 0] 64 (0, 0) : Obj) (by simp))
  obtain ⟨ppf0, ppf1, ppf2, ppf3, ppf4, ppf5, ppf6, ppf7⟩ := cell8s (HC.out.kept (w1.heap.size + 1) (.cells #[.int .i64 17, .int .i64 18, .int .i64 5, .int .i64 6, .int .i64 15, .int .i64 16, .int .i64 5, .int .i64 6] 91 (0, 0) : Obj) (by simp))
  go_wp2_with fail
  clear of0 of1 of2 of3 of4 of5 of6 of7 of8 of9 ppf0 ppf1 ppf2 ppf3 ppf4 ppf5 ppf6 ppf7
  refine (fixed_any _).mono ?_
  rintro e w' ⟨rfl, hb⟩
  go_wp2_with fail
  go_ret
  exact ⟨rfl, HC.out.low.trans (hb.mono HC.out.low.size)⟩
set_option maxHeartbeats 4000000 in
theorem walk11g (a0 a1 a2 : Int) (w : World) (w0 : (Lit.int .u8 a0).wf = true) (w1 : (Lit.int .u8 a1).wf = true) (w2 : (Lit.int .u8 a2).wf = true) {m : Mg} {pn : Pnd} {L1 L2 : List Tm} {o : Opd} (e0 : (wrap64 a0).tmod 2 = 1) (e1 : (wrap64 a1).tmod 2 = 1) (hx : wrap64 (1 + (wrap64 a2).tmod 14) = 6) (TU : Hid (Turned 1 1 6 m pn L1 o 0 L2)) (ho1 : o.stamp = 5) (ho2 : o.pub = 15) : Calls Tryz.prog 9 #[.int .u8 a0, .int .u8 a1, .int .u8 a2] w fun e w' => e = .returned (.bool true) ∧ Below w.heap.size w w' := by
  have gN := NoS.good w.heap.size
  go_enter Tryz.func9, Tryz.ntmps9
  go_wp2_with fail
  refine (two_k w).mono ?_
  rintro e w1 ⟨g, rfl, h1⟩
  have gP := PSq.good w.heap.size g 5000
  have HC := Lib.hid h1
  clear h1
  replace HC := Lib.hid (HC.out.boxB gP gN #[.int .i64 1, .int .i64 2, .int .i64 3, .int .i64 4] 90 (b := w1.heap.size) (by simp))
  replace HC := Lib.hid (HC.out.boxB gP gN #[.int .i64 17, .int .i64 18, .int .i64 5, .int .i64 6, .int .i64 15, .int .i64 16, .int .i64 5, .int .i64 6] 91 (b := w1.heap.size + 1) (by simp))
  go_upto_region 5 with fail
  try simp only [e0, e1]
  clear e0 e1
  obtain ⟨mef0, mef1, mef2, mef3⟩ := cell4s (HC.out.kept (w1.heap.size) (.cells #[.int .i64 1, .int .i64 2, .int .i64 3, .int .i64 4] 90 (0, 0) : Obj) (by simp))
  obtain ⟨ppf0, ppf1, ppf2, ppf3, ppf4, ppf5, ppf6, ppf7⟩ := cell8s (HC.out.kept (w1.heap.size + 1) (.cells #[.int .i64 17, .int .i64 18, .int .i64 5, .int .i64 6, .int .i64 15, .int .i64 16, .int .i64 5, .int .i64 6] 91 (0, 0) : Obj) (by simp))
  go_wp2_with fail
  clear mef0 mef1 mef2 mef3 ppf0 ppf1 ppf2 ppf3 ppf4 ppf5 ppf6 ppf7
  refine (HC.out.hbegin gN (a1 := 1) (a2 := 2) (d0 := 7) (d1 := 8) (d2 := 9) (p := pB) (m0 := mIn ⟨#[1]⟩ 1) (stamp := 5) k1 k2 pB_wf (mIn_wf (by decide) (by omega) (by omega)) (by omega) k7 k8 k9 TU.out.c1).mono ?_
  rintro e w2 ⟨rfl, h⟩
  replace HC := Lib.hid h
  clear h
  simp only [Ms.Ms.v, Ms.Ms.cl, Pnd.v]
  replace HC := Lib.hid (HC.out.boxB gP gN #[.int .i64 (m.i 0), .int .u64 (m.i 1), .int .u64 (m.i 2), .string m.s, .int .i64 (m.i 4), .int .i64 (m.i 5), .int .i64 (m.i 6), .int .i64 (m.i 7), .int .i64 (m.i 8), .int .i64 (m.i 9), .int .i64 (m.i 10), .int .u64 (m.i 11), .int .u64 (m.i 12)] 25 (b := w2.heap.size) (by simp))
  replace HC := Lib.hid (HC.out.boxB gP gN #[.int .i64 pn.y.CK, .int .i64 pn.y.K, .int .i64 pn.y.H, .int .u64 pn.y.N, .int .i64 pn.e, .int .i64 pn.ek, .string pn.offer] 47 (b := w2.heap.size + 1) (by simp))
  obtain ⟨ppf0, ppf1, ppf2, ppf3, ppf4, ppf5, ppf6, ppf7⟩ := cell8s (HC.out.kept (w1.heap.size + 1) (.cells #[.int .i64 17, .int .i64 18, .int .i64 5, .int .i64 6, .int .i64 15, .int .i64 16, .int .i64 5, .int .i64 6] 91 (0, 0) : Obj) (by simp))
  go_upto_region 8 with fail
  clear ppf0 ppf1 ppf2 ppf3 ppf4 ppf5 ppf6 ppf7
  try simp only [hx]
  replace HC := Lib.hid (HC.out.boxB gP gN #[.int .i64 15, .int .i64 16, .int .i64 5, .int .i64 6] 43 (b := w2.heap.size + 1 + 1) (by simp))
  obtain ⟨meg0, meg1, meg2, meg3⟩ := cell4s (HC.out.kept (w1.heap.size) (.cells #[.int .i64 1, .int .i64 2, .int .i64 3, .int .i64 4] 90 (0, 0) : Obj) (by simp))
  obtain ⟨qg0, qg1, qg2, qg3⟩ := cell4s (HC.out.kept (w2.heap.size + 1 + 1) (.cells #[.int .i64 15, .int .i64 16, .int .i64 5, .int .i64 6] 43 (0, 0) : Obj) (by simp))
  replace HC := Lib.hid (HC.out.boxB gP gN #[.int .i64 15, .int .i64 16, .int .i64 5, .int .i64 6] 43 (b := w2.heap.size + 1 + 1 + 1) (by simp))
  obtain ⟨mf0, mf1, mf2, mf3, mf4, mf5, mf6, mf7, mf8, mf9, mf10, mf11, mf12⟩ := cell13s (HC.out.kept (w2.heap.size) (.cells #[.int .i64 (m.i 0), .int .u64 (m.i 1), .int .u64 (m.i 2), .string m.s, .int .i64 (m.i 4), .int .i64 (m.i 5), .int .i64 (m.i 6), .int .i64 (m.i 7), .int .i64 (m.i 8), .int .i64 (m.i 9), .int .i64 (m.i 10), .int .u64 (m.i 11), .int .u64 (m.i 12)] 25 (0, 0) : Obj) (by simp))
  go_wp2_with fail
  clear meg0 meg1 meg2 meg3 qg0 qg1 qg2 qg3 mf0 mf1 mf2 mf3 mf4 mf5 mf6 mf7 mf8 mf9 mf10 mf11 mf12
  have HR : ∀ bs, ((w2.heap.size + 1 + 1 + 1, (.cells #[.int .i64 15, .int .i64 16, .int .i64 5, .int .i64 6] 43 (0, 0) : Obj)) : Nat × Obj) ∈ bs → RowB bs (some ⟨w2.heap.size + 1 + 1 + 1, 0, none⟩) [qq 1 6] := fun bs hm W hk => row_one (p := qq 1 6) (hk (w2.heap.size + 1 + 1 + 1) (.cells #[.int .i64 15, .int .i64 16, .int .i64 5, .int .i64 6] 43 (0, 0) : Obj) hm)
  refine (HC.out.hopen gN (x := 3) (y := 4) (ps := [qq 1 6]) (offer := ⟨#[1]⟩) k3 k4 (by rfl) (by decide) (HR _ (by simp)) (by simp; exact pr_wf (by omega) (by omega) (by omega) (by omega)) (by decide) TU.out.mw TU.out.c2).mono ?_
  rintro e w3 ⟨rfl, h⟩
  replace HC := Lib.hid h
  clear h HR
  simp only [Opd.v, ho1, ho2]
  clear ho1 ho2
  replace HC := Lib.hid (HC.out.boxB gP gN #[.int .i64 o.y.CK, .int .i64 o.y.K, .int .i64 o.y.H, .int .u64 o.y.N, .int .i64 o.peer, .int .i64 o.version, .int .u64 5, .int .i64 o.e, .int .i64 o.ek, .int .i64 15] 64 (b := w3.heap.size) (by simp))
  go_upto_region 9 with fail
  replace HC := Lib.hid (HC.out.below gP gN (Below.refl _ _).drew)
  have z1 := cell_of_row _ _ 3 _ _ _ (HC.out.kept (w2.heap.size + 1 + 1) (.cells #[.int .i64 15, .int .i64 16, .int .i64 5, .int .i64 6] 43 (0, 0) : Obj) (by simp))
  have z2 := cell_of_row _ _ 7 _ _ _ (HC.out.kept (w1.heap.size + 1) (.cells #[.int .i64 17, .int .i64 18, .int .i64 5, .int .i64 6, .int .i64 15, .int .i64 16, .int .i64 5, .int .i64 6] 91 (0, 0) : Obj) (by simp))
  simp at z1 z2
  refine wp_region_held_drew (S := (fun W => W.cell? ⟨w2.heap.size + 1 + 1, 3, none⟩ = some (.int .i64 6) ∧ W.cell? ⟨w1.heap.size + 1, 7, none⟩ = some (.int .i64 6))) (by kernel_rfl) (⟨by simpa using z1, by simpa using z2⟩) (fun hHeld => ?_)
  refine tk1 0 (oi := ?o46) (v := ?v46) ?i46 ?w46 ?y46 ?r46
  case' i46 => simp only [g1, g2, g3]
  case i46 => rfl
  case w46 => kernel_rfl
  case y46 => (intro W hSw; go_simp) <;> with_reducible rfl
  try simp only [Act.put, p1, p2, p3]
  refine tk1 1 (oi := ?o47) (v := ?v47) ?i47 ?w47 ?y47 ?r47
  case' i47 => simp only [g1, g2, g3]
  case i47 => rfl
  case w47 => kernel_rfl
  case y47 => (intro W hSw; go_simp) <;> with_reducible rfl
  try simp only [Act.put, p1, p2, p3]
  refine tk1 2 (oi := ?o48) (v := ?v48) ?i48 ?w48 ?y48 ?r48
  case' i48 => simp only [g1, g2, g3]
  case i48 => rfl
  case w48 => kernel_rfl
  case y48 => (intro W hSw; go_simp) <;> with_reducible rfl
  try simp only [Act.put, p1, p2, p3]
  refine tk1 3 (oi := ?o49) (v := ?v49) ?i49 ?w49 ?y49 ?r49
  case' i49 => simp only [g1, g2, g3]
  case i49 => rfl
  case w49 => kernel_rfl
  case y49 => (intro W hSw; go_simp) <;> with_reducible rfl
  try simp only [Act.put, p1, p2, p3]
  refine tk1 4 (oi := ?o50) (v := ?v50) ?i50 ?w50 ?y50 ?r50
  case' i50 => simp only [g1, g2, g3]
  case i50 => rfl
  case w50 => kernel_rfl
  case y50 => (intro W hSw; go_simp) <;> with_reducible rfl
  try simp only [Act.put, p1, p2, p3]
  refine tk1 5 (oi := ?o51) (v := ?v51) ?i51 ?w51 ?y51 ?r51
  case' i51 => simp only [g1, g2, g3]
  case i51 => rfl
  case w51 => kernel_rfl
  case y51 => (intro W hSw; go_simp) <;> with_reducible rfl
  try simp only [Act.put, p1, p2, p3]
  refine tk1 6 (oi := ?o52) (v := ?v52) ?i52 ?w52 ?y52 ?r52
  case' i52 => simp only [g1, g2, g3]
  case i52 => rfl
  case w52 => kernel_rfl
  case y52 => (intro W hSw; go_simp) <;> with_reducible rfl
  try simp only [Act.put, p1, p2, p3]
  refine tk1 7 (oi := ?o53) (v := ?v53) ?i53 ?w53 ?y53 ?r53
  case' i53 => simp only [g1, g2, g3]
  case i53 => rfl
  case w53 => kernel_rfl
  case y53 => (intro W hSw; obtain ⟨z1, z2⟩ := hSw; go_simp) <;> with_reducible rfl
  try simp only [Act.put, p1, p2, p3]
  refine tk1 8 (oi := ?o54) (v := ?v54) ?i54 ?w54 ?y54 ?r54
  case' i54 => simp only [g1, g2, g3]
  case i54 => rfl
  case w54 => kernel_rfl
  case y54 => (intro W hSw; go_simp) <;> with_reducible rfl
  try simp only [Act.put, p1, p2, p3]
  refine tk1 9 (oi := ?o55) (v := ?v55) ?i55 ?w55 ?y55 ?r55
  case' i55 => simp only [g1, g2, g3]
  case i55 => rfl
  case w55 => kernel_rfl
  case y55 => (intro W hSw; go_simp) <;> with_reducible rfl
  try simp only [Act.put, p1, p2, p3]
  refine tk1 10 (oi := ?o56) (v := ?v56) ?i56 ?w56 ?y56 ?r56
  case' i56 => simp only [g1, g2, g3]
  case i56 => rfl
  case w56 => kernel_rfl
  case y56 => (intro W hSw; go_simp) <;> with_reducible rfl
  try simp only [Act.put, p1, p2, p3]
  refine tk1 11 (oi := ?o57) (v := ?v57) ?i57 ?w57 ?y57 ?r57
  case' i57 => simp only [g1, g2, g3]
  case i57 => rfl
  case w57 => kernel_rfl
  case y57 => (intro W hSw; go_simp) <;> with_reducible rfl
  try simp only [Act.put, p1, p2, p3]
  refine tk1 12 (oi := ?o58) (v := ?v58) ?i58 ?w58 ?y58 ?r58
  case' i58 => simp only [g1, g2, g3]
  case i58 => rfl
  case w58 => kernel_rfl
  case y58 => (intro W hSw; obtain ⟨z1, z2⟩ := hSw; go_simp) <;> with_reducible rfl
  try simp only [Act.put, p1, p2, p3]
  refine tk1 13 (oi := ?o59) (v := ?v59) ?i59 ?w59 ?y59 ?r59
  case' i59 => simp only [g1, g2, g3]
  case i59 => rfl
  case w59 => kernel_rfl
  case y59 => (intro W hSw; go_simp) <;> with_reducible rfl
  try simp only [Act.put, p1, p2, p3]
  refine tk1 14 (oi := ?o60) (v := ?v60) ?i60 ?w60 ?y60 ?r60
  case' i60 => simp only [g1, g2, g3]
  case i60 => rfl
  case w60 => kernel_rfl
  case y60 => (intro W hSw; go_simp) <;> with_reducible rfl
  try simp only [Act.put, p1, p2, p3]
  refine wpAnyH_done (by kernel_rfl) ?_ _
  clear z1 z2 hHeld
  obtain ⟨of0, of1, of2, of3, of4, of5, of6, of7, of8, of9⟩ := cell10s (HC.out.kept (w3.heap.size) (.cells #[.int .i64 o.y.CK, .int .i64 o.y.K, .int .i64 o.y.H, .int .u64 o.y.N, .int .i64 o.peer, .int .i64 o.version, .int .u64 5, .int .i64 o.e, .int .i64 o.ek, .int .i64 15] 64 (0, 0) : Obj) (by simp))
  obtain ⟨ppf0, ppf1, ppf2, ppf3, ppf4, ppf5, ppf6, ppf7⟩ := cell8s (HC.out.kept (w1.heap.size + 1) (.cells #[.int .i64 17, .int .i64 18, .int .i64 5, .int .i64 6, .int .i64 15, .int .i64 16, .int .i64 5, .int .i64 6] 91 (0, 0) : Obj) (by simp))
  go_wp2_with fail
  clear of0 of1 of2 of3 of4 of5 of6 of7 of8 of9 ppf0 ppf1 ppf2 ppf3 ppf4 ppf5 ppf6 ppf7
  refine (fixed_any _).mono ?_
  rintro e w' ⟨rfl, hb⟩
  go_wp2_with fail
  go_ret
  exact ⟨rfl, HC.out.low.trans (hb.mono HC.out.low.size)⟩
set_option maxHeartbeats 4000000 in
theorem walk01g (a0 a1 a2 : Int) (w : World) (w0 : (Lit.int .u8 a0).wf = true) (w1 : (Lit.int .u8 a1).wf = true) (w2 : (Lit.int .u8 a2).wf = true) {m : Mg} {pn : Pnd} {L1 L2 : List Tm} {o : Opd} {x : Nat} (hx1 : 1 ≤ x) (hx2 : x ≤ 14) (e0 : (wrap64 a0).tmod 2 = 0) (e1 : (wrap64 a1).tmod 2 = 1) (hx : wrap64 (1 + (wrap64 a2).tmod 14) = (x : Int)) (TU : Hid (Turned 0 1 x m pn L1 o 0 L2)) (ho1 : o.stamp = 5) (ho2 : o.pub = 15) : Calls Tryz.prog 9 #[.int .u8 a0, .int .u8 a1, .int .u8 a2] w fun e w' => e = .returned (.bool true) ∧ Below w.heap.size w w' := by
  have gN := NoS.good w.heap.size
  go_enter Tryz.func9, Tryz.ntmps9
  go_wp2_with fail
  refine (two_k w).mono ?_
  rintro e w1 ⟨g, rfl, h1⟩
  have gP := PSq.good w.heap.size g 5000
  have HC := Lib.hid h1
  clear h1
  replace HC := Lib.hid (HC.out.boxB gP gN #[.int .i64 1, .int .i64 2, .int .i64 3, .int .i64 4] 90 (b := w1.heap.size) (by simp))
  replace HC := Lib.hid (HC.out.boxB gP gN #[.int .i64 17, .int .i64 18, .int .i64 5, .int .i64 6, .int .i64 15, .int .i64 16, .int .i64 5, .int .i64 6] 91 (b := w1.heap.size + 1) (by simp))
  go_upto_region 5 with fail
  try simp only [e0, e1]
  clear e0 e1
  obtain ⟨mef0, mef1, mef2, mef3⟩ := cell4s (HC.out.kept (w1.heap.size) (.cells #[.int .i64 1, .int .i64 2, .int .i64 3, .int .i64 4] 90 (0, 0) : Obj) (by simp))
  obtain ⟨ppf0, ppf1, ppf2, ppf3, ppf4, ppf5, ppf6, ppf7⟩ := cell8s (HC.out.kept (w1.heap.size + 1) (.cells #[.int .i64 17, .int .i64 18, .int .i64 5, .int .i64 6, .int .i64 15, .int .i64 16, .int .i64 5, .int .i64 6] 91 (0, 0) : Obj) (by simp))
  go_wp2_with fail
  clear mef0 mef1 mef2 mef3 ppf0 ppf1 ppf2 ppf3 ppf4 ppf5 ppf6 ppf7
  refine (HC.out.hbegin gN (a1 := 1) (a2 := 2) (d0 := 7) (d1 := 8) (d2 := 9) (p := pB) (m0 := mIn ⟨#[1]⟩ 0) (stamp := 5) k1 k2 pB_wf (mIn_wf (by decide) (by omega) (by omega)) (by omega) k7 k8 k9 TU.out.c1).mono ?_
  rintro e w2 ⟨rfl, h⟩
  replace HC := Lib.hid h
  clear h
  simp only [Ms.Ms.v, Ms.Ms.cl, Pnd.v]
  replace HC := Lib.hid (HC.out.boxB gP gN #[.int .i64 (m.i 0), .int .u64 (m.i 1), .int .u64 (m.i 2), .string m.s, .int .i64 (m.i 4), .int .i64 (m.i 5), .int .i64 (m.i 6), .int .i64 (m.i 7), .int .i64 (m.i 8), .int .i64 (m.i 9), .int .i64 (m.i 10), .int .u64 (m.i 11), .int .u64 (m.i 12)] 25 (b := w2.heap.size) (by simp))
  replace HC := Lib.hid (HC.out.boxB gP gN #[.int .i64 pn.y.CK, .int .i64 pn.y.K, .int .i64 pn.y.H, .int .u64 pn.y.N, .int .i64 pn.e, .int .i64 pn.ek, .string pn.offer] 47 (b := w2.heap.size + 1) (by simp))
  obtain ⟨ppf0, ppf1, ppf2, ppf3, ppf4, ppf5, ppf6, ppf7⟩ := cell8s (HC.out.kept (w1.heap.size + 1) (.cells #[.int .i64 17, .int .i64 18, .int .i64 5, .int .i64 6, .int .i64 15, .int .i64 16, .int .i64 5, .int .i64 6] 91 (0, 0) : Obj) (by simp))
  go_upto_region 8 with fail
  clear ppf0 ppf1 ppf2 ppf3 ppf4 ppf5 ppf6 ppf7
  try simp only [hx]
  replace HC := Lib.hid (HC.out.boxB gP gN #[.int .i64 15, .int .i64 16, .int .i64 5, .int .i64 x] 43 (b := w2.heap.size + 1 + 1) (by simp))
  obtain ⟨meg0, meg1, meg2, meg3⟩ := cell4s (HC.out.kept (w1.heap.size) (.cells #[.int .i64 1, .int .i64 2, .int .i64 3, .int .i64 4] 90 (0, 0) : Obj) (by simp))
  obtain ⟨qg0, qg1, qg2, qg3⟩ := cell4s (HC.out.kept (w2.heap.size + 1 + 1) (.cells #[.int .i64 15, .int .i64 16, .int .i64 5, .int .i64 x] 43 (0, 0) : Obj) (by simp))
  replace HC := Lib.hid (HC.out.boxB gP gN #[.int .i64 15, .int .i64 16, .int .i64 5, .int .i64 x] 43 (b := w2.heap.size + 1 + 1 + 1) (by simp))
  obtain ⟨mf0, mf1, mf2, mf3, mf4, mf5, mf6, mf7, mf8, mf9, mf10, mf11, mf12⟩ := cell13s (HC.out.kept (w2.heap.size) (.cells #[.int .i64 (m.i 0), .int .u64 (m.i 1), .int .u64 (m.i 2), .string m.s, .int .i64 (m.i 4), .int .i64 (m.i 5), .int .i64 (m.i 6), .int .i64 (m.i 7), .int .i64 (m.i 8), .int .i64 (m.i 9), .int .i64 (m.i 10), .int .u64 (m.i 11), .int .u64 (m.i 12)] 25 (0, 0) : Obj) (by simp))
  go_wp2_with fail
  clear meg0 meg1 meg2 meg3 qg0 qg1 qg2 qg3 mf0 mf1 mf2 mf3 mf4 mf5 mf6 mf7 mf8 mf9 mf10 mf11 mf12
  have HR : ∀ bs, ((w2.heap.size + 1 + 1 + 1, (.cells #[.int .i64 15, .int .i64 16, .int .i64 5, .int .i64 x] 43 (0, 0) : Obj)) : Nat × Obj) ∈ bs → RowB bs (some ⟨w2.heap.size + 1 + 1 + 1, 0, none⟩) [qq 1 x] := fun bs hm W hk => row_one (p := qq 1 x) (hk (w2.heap.size + 1 + 1 + 1) (.cells #[.int .i64 15, .int .i64 16, .int .i64 5, .int .i64 x] 43 (0, 0) : Obj) hm)
  refine (HC.out.hopen gN (x := 3) (y := 4) (ps := [qq 1 x]) (offer := ⟨#[1]⟩) k3 k4 (by rfl) (by decide) (HR _ (by simp)) (by simp; exact pr_wf (by omega) (by omega) (by omega) (by omega)) (by decide) TU.out.mw TU.out.c2).mono ?_
  rintro e w3 ⟨rfl, h⟩
  replace HC := Lib.hid h
  clear h HR
  simp only [Opd.v, ho1, ho2]
  clear ho1 ho2
  replace HC := Lib.hid (HC.out.boxB gP gN #[.int .i64 o.y.CK, .int .i64 o.y.K, .int .i64 o.y.H, .int .u64 o.y.N, .int .i64 o.peer, .int .i64 o.version, .int .u64 5, .int .i64 o.e, .int .i64 o.ek, .int .i64 15] 64 (b := w3.heap.size) (by simp))
  go_upto_region 9 with fail
  replace HC := Lib.hid (HC.out.below gP gN (Below.refl _ _).drew)
  have z1 := cell_of_row _ _ 3 _ _ _ (HC.out.kept (w2.heap.size + 1 + 1) (.cells #[.int .i64 15, .int .i64 16, .int .i64 5, .int .i64 x] 43 (0, 0) : Obj) (by simp))
  have z2 := cell_of_row _ _ 7 _ _ _ (HC.out.kept (w1.heap.size + 1) (.cells #[.int .i64 17, .int .i64 18, .int .i64 5, .int .i64 6, .int .i64 15, .int .i64 16, .int .i64 5, .int .i64 6] 91 (0, 0) : Obj) (by simp))
  simp at z1 z2
  refine wp_region_held_drew (S := (fun W => W.cell? ⟨w2.heap.size + 1 + 1, 3, none⟩ = some (.int .i64 x) ∧ W.cell? ⟨w1.heap.size + 1, 7, none⟩ = some (.int .i64 6))) (by kernel_rfl) (⟨by simpa using z1, by simpa using z2⟩) (fun hHeld => ?_)
  refine tk1 0 (oi := ?o61) (v := ?v61) ?i61 ?w61 ?y61 ?r61
  case' i61 => simp only [g1, g2, g3]
  case i61 => rfl
  case w61 => kernel_rfl
  case y61 => (intro W hSw; go_simp) <;> with_reducible rfl
  try simp only [Act.put, p1, p2, p3]
  refine tk1 1 (oi := ?o62) (v := ?v62) ?i62 ?w62 ?y62 ?r62
  case' i62 => simp only [g1, g2, g3]
  case i62 => rfl
  case w62 => kernel_rfl
  case y62 => (intro W hSw; go_simp) <;> with_reducible rfl
  try simp only [Act.put, p1, p2, p3]
  refine tk1 2 (oi := ?o63) (v := ?v63) ?i63 ?w63 ?y63 ?r63
  case' i63 => simp only [g1, g2, g3]
  case i63 => rfl
  case w63 => kernel_rfl
  case y63 => (intro W hSw; go_simp) <;> with_reducible rfl
  try simp only [Act.put, p1, p2, p3]
  refine tk1 3 (oi := ?o64) (v := ?v64) ?i64 ?w64 ?y64 ?r64
  case' i64 => simp only [g1, g2, g3]
  case i64 => rfl
  case w64 => kernel_rfl
  case y64 => (intro W hSw; go_simp) <;> with_reducible rfl
  try simp only [Act.put, p1, p2, p3]
  refine tk2 4 (oi := ?o65) ?i65 ?w65 ?r65
  case' i65 => simp only [g1, g2, g3]
  case i65 => rfl
  case w65 => kernel_rfl
  try simp only [Act.put, p1, p2, p3]
  refine tk2 5 (oi := ?o66) ?i66 ?w66 ?r66
  case' i66 => simp only [g1, g2, g3]
  case i66 => rfl
  case w66 => kernel_rfl
  try simp only [Act.put, p1, p2, p3]
  refine tk2 6 (oi := ?o67) ?i67 ?w67 ?r67
  case' i67 => simp only [g1, g2, g3]
  case i67 => rfl
  case w67 => kernel_rfl
  try simp only [Act.put, p1, p2, p3]
  refine tk2 7 (oi := ?o68) ?i68 ?w68 ?r68
  case' i68 => simp only [g1, g2, g3]
  case i68 => rfl
  case w68 => kernel_rfl
  try simp only [Act.put, p1, p2, p3]
  refine tk2 8 (oi := ?o69) ?i69 ?w69 ?r69
  case' i69 => simp only [g1, g2, g3]
  case i69 => rfl
  case w69 => kernel_rfl
  try simp only [Act.put, p1, p2, p3]
  refine tk2 9 (oi := ?o70) ?i70 ?w70 ?r70
  case' i70 => simp only [g1, g2, g3]
  case i70 => rfl
  case w70 => kernel_rfl
  try simp only [Act.put, p1, p2, p3]
  refine tk2 10 (oi := ?o71) ?i71 ?w71 ?r71
  case' i71 => simp only [g1, g2, g3]
  case i71 => rfl
  case w71 => kernel_rfl
  try simp only [Act.put, p1, p2, p3]
  refine tk2 11 (oi := ?o72) ?i72 ?w72 ?r72
  case' i72 => simp only [g1, g2, g3]
  case i72 => rfl
  case w72 => kernel_rfl
  try simp only [Act.put, p1, p2, p3]
  refine tk2 12 (oi := ?o73) ?i73 ?w73 ?r73
  case' i73 => simp only [g1, g2, g3]
  case i73 => rfl
  case w73 => kernel_rfl
  try simp only [Act.put, p1, p2, p3]
  refine tk2 13 (oi := ?o74) ?i74 ?w74 ?r74
  case' i74 => simp only [g1, g2, g3]
  case i74 => rfl
  case w74 => kernel_rfl
  try simp only [Act.put, p1, p2, p3]
  refine tk1 14 (oi := ?o75) (v := ?v75) ?i75 ?w75 ?y75 ?r75
  case' i75 => simp only [g1, g2, g3]
  case i75 => rfl
  case w75 => kernel_rfl
  case y75 => (intro W hSw; go_simp) <;> with_reducible rfl
  try simp only [Act.put, p1, p2, p3]
  refine wpAnyH_done (by kernel_rfl) ?_ _
  clear z1 z2 hHeld
  obtain ⟨of0, of1, of2, of3, of4, of5, of6, of7, of8, of9⟩ := cell10s (HC.out.kept (w3.heap.size) (.cells #[.int .i64 o.y.CK, .int .i64 o.y.K, .int .i64 o.y.H, .int .u64 o.y.N, .int .i64 o.peer, .int .i64 o.version, .int .u64 5, .int .i64 o.e, .int .i64 o.ek, .int .i64 15] 64 (0, 0) : Obj) (by simp))
  obtain ⟨ppf0, ppf1, ppf2, ppf3, ppf4, ppf5, ppf6, ppf7⟩ := cell8s (HC.out.kept (w1.heap.size + 1) (.cells #[.int .i64 17, .int .i64 18, .int .i64 5, .int .i64 6, .int .i64 15, .int .i64 16, .int .i64 5, .int .i64 6] 91 (0, 0) : Obj) (by simp))
  go_wp2_with fail
  clear of0 of1 of2 of3 of4 of5 of6 of7 of8 of9 ppf0 ppf1 ppf2 ppf3 ppf4 ppf5 ppf6 ppf7
  refine (fixed_any _).mono ?_
  rintro e w' ⟨rfl, hb⟩
  go_wp2_with fail
  go_ret
  exact ⟨rfl, HC.out.low.trans (hb.mono HC.out.low.size)⟩
set_option maxHeartbeats 4000000 in
theorem walk10g (a0 a1 a2 : Int) (w : World) (w0 : (Lit.int .u8 a0).wf = true) (w1 : (Lit.int .u8 a1).wf = true) (w2 : (Lit.int .u8 a2).wf = true) {m : Mg} {pn : Pnd} {L1 L2 : List Tm} {o : Opd} {x : Nat} (hx1 : 1 ≤ x) (hx2 : x ≤ 14) (e0 : (wrap64 a0).tmod 2 = 1) (e1 : (wrap64 a1).tmod 2 = 0) (hx : wrap64 (1 + (wrap64 a2).tmod 14) = (x : Int)) (TU : Hid (Turned 1 0 x m pn L1 o 0 L2)) (ho1 : o.stamp = 5) (ho2 : o.pub = 15) : Calls Tryz.prog 9 #[.int .u8 a0, .int .u8 a1, .int .u8 a2] w fun e w' => e = .returned (.bool true) ∧ Below w.heap.size w w' := by
  have gN := NoS.good w.heap.size
  go_enter Tryz.func9, Tryz.ntmps9
  go_wp2_with fail
  refine (two_k w).mono ?_
  rintro e w1 ⟨g, rfl, h1⟩
  have gP := PSq.good w.heap.size g 5000
  have HC := Lib.hid h1
  clear h1
  replace HC := Lib.hid (HC.out.boxB gP gN #[.int .i64 1, .int .i64 2, .int .i64 3, .int .i64 4] 90 (b := w1.heap.size) (by simp))
  replace HC := Lib.hid (HC.out.boxB gP gN #[.int .i64 17, .int .i64 18, .int .i64 5, .int .i64 6, .int .i64 15, .int .i64 16, .int .i64 5, .int .i64 6] 91 (b := w1.heap.size + 1) (by simp))
  go_upto_region 5 with fail
  try simp only [e0, e1]
  clear e0 e1
  obtain ⟨mef0, mef1, mef2, mef3⟩ := cell4s (HC.out.kept (w1.heap.size) (.cells #[.int .i64 1, .int .i64 2, .int .i64 3, .int .i64 4] 90 (0, 0) : Obj) (by simp))
  obtain ⟨ppf0, ppf1, ppf2, ppf3, ppf4, ppf5, ppf6, ppf7⟩ := cell8s (HC.out.kept (w1.heap.size + 1) (.cells #[.int .i64 17, .int .i64 18, .int .i64 5, .int .i64 6, .int .i64 15, .int .i64 16, .int .i64 5, .int .i64 6] 91 (0, 0) : Obj) (by simp))
  go_wp2_with fail
  clear mef0 mef1 mef2 mef3 ppf0 ppf1 ppf2 ppf3 ppf4 ppf5 ppf6 ppf7
  refine (HC.out.hbegin gN (a1 := 1) (a2 := 2) (d0 := 7) (d1 := 8) (d2 := 9) (p := pB) (m0 := mIn ⟨#[1]⟩ 1) (stamp := 5) k1 k2 pB_wf (mIn_wf (by decide) (by omega) (by omega)) (by omega) k7 k8 k9 TU.out.c1).mono ?_
  rintro e w2 ⟨rfl, h⟩
  replace HC := Lib.hid h
  clear h
  simp only [Ms.Ms.v, Ms.Ms.cl, Pnd.v]
  replace HC := Lib.hid (HC.out.boxB gP gN #[.int .i64 (m.i 0), .int .u64 (m.i 1), .int .u64 (m.i 2), .string m.s, .int .i64 (m.i 4), .int .i64 (m.i 5), .int .i64 (m.i 6), .int .i64 (m.i 7), .int .i64 (m.i 8), .int .i64 (m.i 9), .int .i64 (m.i 10), .int .u64 (m.i 11), .int .u64 (m.i 12)] 25 (b := w2.heap.size) (by simp))
  replace HC := Lib.hid (HC.out.boxB gP gN #[.int .i64 pn.y.CK, .int .i64 pn.y.K, .int .i64 pn.y.H, .int .u64 pn.y.N, .int .i64 pn.e, .int .i64 pn.ek, .string pn.offer] 47 (b := w2.heap.size + 1) (by simp))
  obtain ⟨ppf0, ppf1, ppf2, ppf3, ppf4, ppf5, ppf6, ppf7⟩ := cell8s (HC.out.kept (w1.heap.size + 1) (.cells #[.int .i64 17, .int .i64 18, .int .i64 5, .int .i64 6, .int .i64 15, .int .i64 16, .int .i64 5, .int .i64 6] 91 (0, 0) : Obj) (by simp))
  go_upto_region 8 with fail
  clear ppf0 ppf1 ppf2 ppf3 ppf4 ppf5 ppf6 ppf7
  try simp only [hx]
  replace HC := Lib.hid (HC.out.boxB gP gN #[.int .i64 15, .int .i64 16, .int .i64 x, .int .i64 6] 43 (b := w2.heap.size + 1 + 1) (by simp))
  obtain ⟨meg0, meg1, meg2, meg3⟩ := cell4s (HC.out.kept (w1.heap.size) (.cells #[.int .i64 1, .int .i64 2, .int .i64 3, .int .i64 4] 90 (0, 0) : Obj) (by simp))
  obtain ⟨qg0, qg1, qg2, qg3⟩ := cell4s (HC.out.kept (w2.heap.size + 1 + 1) (.cells #[.int .i64 15, .int .i64 16, .int .i64 x, .int .i64 6] 43 (0, 0) : Obj) (by simp))
  replace HC := Lib.hid (HC.out.boxB gP gN #[.int .i64 15, .int .i64 16, .int .i64 x, .int .i64 6] 43 (b := w2.heap.size + 1 + 1 + 1) (by simp))
  obtain ⟨mf0, mf1, mf2, mf3, mf4, mf5, mf6, mf7, mf8, mf9, mf10, mf11, mf12⟩ := cell13s (HC.out.kept (w2.heap.size) (.cells #[.int .i64 (m.i 0), .int .u64 (m.i 1), .int .u64 (m.i 2), .string m.s, .int .i64 (m.i 4), .int .i64 (m.i 5), .int .i64 (m.i 6), .int .i64 (m.i 7), .int .i64 (m.i 8), .int .i64 (m.i 9), .int .i64 (m.i 10), .int .u64 (m.i 11), .int .u64 (m.i 12)] 25 (0, 0) : Obj) (by simp))
  go_wp2_with fail
  clear meg0 meg1 meg2 meg3 qg0 qg1 qg2 qg3 mf0 mf1 mf2 mf3 mf4 mf5 mf6 mf7 mf8 mf9 mf10 mf11 mf12
  have HR : ∀ bs, ((w2.heap.size + 1 + 1 + 1, (.cells #[.int .i64 15, .int .i64 16, .int .i64 x, .int .i64 6] 43 (0, 0) : Obj)) : Nat × Obj) ∈ bs → RowB bs (some ⟨w2.heap.size + 1 + 1 + 1, 0, none⟩) [qq 0 x] := fun bs hm W hk => row_one (p := qq 0 x) (hk (w2.heap.size + 1 + 1 + 1) (.cells #[.int .i64 15, .int .i64 16, .int .i64 x, .int .i64 6] 43 (0, 0) : Obj) hm)
  refine (HC.out.hopen gN (x := 3) (y := 4) (ps := [qq 0 x]) (offer := ⟨#[1]⟩) k3 k4 (by rfl) (by decide) (HR _ (by simp)) (by simp; exact pr_wf (by omega) (by omega) (by omega) (by omega)) (by decide) TU.out.mw TU.out.c2).mono ?_
  rintro e w3 ⟨rfl, h⟩
  replace HC := Lib.hid h
  clear h HR
  simp only [Opd.v, ho1, ho2]
  clear ho1 ho2
  replace HC := Lib.hid (HC.out.boxB gP gN #[.int .i64 o.y.CK, .int .i64 o.y.K, .int .i64 o.y.H, .int .u64 o.y.N, .int .i64 o.peer, .int .i64 o.version, .int .u64 5, .int .i64 o.e, .int .i64 o.ek, .int .i64 15] 64 (b := w3.heap.size) (by simp))
  go_upto_region 9 with fail
  replace HC := Lib.hid (HC.out.below gP gN (Below.refl _ _).drew)
  have z1 := cell_of_row _ _ 2 _ _ _ (HC.out.kept (w2.heap.size + 1 + 1) (.cells #[.int .i64 15, .int .i64 16, .int .i64 x, .int .i64 6] 43 (0, 0) : Obj) (by simp))
  have z2 := cell_of_row _ _ 6 _ _ _ (HC.out.kept (w1.heap.size + 1) (.cells #[.int .i64 17, .int .i64 18, .int .i64 5, .int .i64 6, .int .i64 15, .int .i64 16, .int .i64 5, .int .i64 6] 91 (0, 0) : Obj) (by simp))
  simp at z1 z2
  refine wp_region_held_drew (S := (fun W => W.cell? ⟨w2.heap.size + 1 + 1, 2, none⟩ = some (.int .i64 x) ∧ W.cell? ⟨w1.heap.size + 1, 6, none⟩ = some (.int .i64 5))) (by kernel_rfl) (⟨by simpa using z1, by simpa using z2⟩) (fun hHeld => ?_)
  refine tk1 0 (oi := ?o76) (v := ?v76) ?i76 ?w76 ?y76 ?r76
  case' i76 => simp only [g1, g2, g3]
  case i76 => rfl
  case w76 => kernel_rfl
  case y76 => (intro W hSw; go_simp) <;> with_reducible rfl
  try simp only [Act.put, p1, p2, p3]
  refine tk1 1 (oi := ?o77) (v := ?v77) ?i77 ?w77 ?y77 ?r77
  case' i77 => simp only [g1, g2, g3]
  case i77 => rfl
  case w77 => kernel_rfl
  case y77 => (intro W hSw; go_simp) <;> with_reducible rfl
  try simp only [Act.put, p1, p2, p3]
  refine tk1 2 (oi := ?o78) (v := ?v78) ?i78 ?w78 ?y78 ?r78
  case' i78 => simp only [g1, g2, g3]
  case i78 => rfl
  case w78 => kernel_rfl
  case y78 => (intro W hSw; go_simp) <;> with_reducible rfl
  try simp only [Act.put, p1, p2, p3]
  refine tk1 3 (oi := ?o79) (v := ?v79) ?i79 ?w79 ?y79 ?r79
  case' i79 => simp only [g1, g2, g3]
  case i79 => rfl
  case w79 => kernel_rfl
  case y79 => (intro W hSw; go_simp) <;> with_reducible rfl
  try simp only [Act.put, p1, p2, p3]
  refine tk2 4 (oi := ?o80) ?i80 ?w80 ?r80
  case' i80 => simp only [g1, g2, g3]
  case i80 => rfl
  case w80 => kernel_rfl
  try simp only [Act.put, p1, p2, p3]
  refine tk2 5 (oi := ?o81) ?i81 ?w81 ?r81
  case' i81 => simp only [g1, g2, g3]
  case i81 => rfl
  case w81 => kernel_rfl
  try simp only [Act.put, p1, p2, p3]
  refine tk2 6 (oi := ?o82) ?i82 ?w82 ?r82
  case' i82 => simp only [g1, g2, g3]
  case i82 => rfl
  case w82 => kernel_rfl
  try simp only [Act.put, p1, p2, p3]
  refine tk2 7 (oi := ?o83) ?i83 ?w83 ?r83
  case' i83 => simp only [g1, g2, g3]
  case i83 => rfl
  case w83 => kernel_rfl
  try simp only [Act.put, p1, p2, p3]
  refine tk2 8 (oi := ?o84) ?i84 ?w84 ?r84
  case' i84 => simp only [g1, g2, g3]
  case i84 => rfl
  case w84 => kernel_rfl
  try simp only [Act.put, p1, p2, p3]
  refine tk2 9 (oi := ?o85) ?i85 ?w85 ?r85
  case' i85 => simp only [g1, g2, g3]
  case i85 => rfl
  case w85 => kernel_rfl
  try simp only [Act.put, p1, p2, p3]
  refine tk2 10 (oi := ?o86) ?i86 ?w86 ?r86
  case' i86 => simp only [g1, g2, g3]
  case i86 => rfl
  case w86 => kernel_rfl
  try simp only [Act.put, p1, p2, p3]
  refine tk2 11 (oi := ?o87) ?i87 ?w87 ?r87
  case' i87 => simp only [g1, g2, g3]
  case i87 => rfl
  case w87 => kernel_rfl
  try simp only [Act.put, p1, p2, p3]
  refine tk2 12 (oi := ?o88) ?i88 ?w88 ?r88
  case' i88 => simp only [g1, g2, g3]
  case i88 => rfl
  case w88 => kernel_rfl
  try simp only [Act.put, p1, p2, p3]
  refine tk2 13 (oi := ?o89) ?i89 ?w89 ?r89
  case' i89 => simp only [g1, g2, g3]
  case i89 => rfl
  case w89 => kernel_rfl
  try simp only [Act.put, p1, p2, p3]
  refine tk1 14 (oi := ?o90) (v := ?v90) ?i90 ?w90 ?y90 ?r90
  case' i90 => simp only [g1, g2, g3]
  case i90 => rfl
  case w90 => kernel_rfl
  case y90 => (intro W hSw; go_simp) <;> with_reducible rfl
  try simp only [Act.put, p1, p2, p3]
  refine wpAnyH_done (by kernel_rfl) ?_ _
  clear z1 z2 hHeld
  obtain ⟨of0, of1, of2, of3, of4, of5, of6, of7, of8, of9⟩ := cell10s (HC.out.kept (w3.heap.size) (.cells #[.int .i64 o.y.CK, .int .i64 o.y.K, .int .i64 o.y.H, .int .u64 o.y.N, .int .i64 o.peer, .int .i64 o.version, .int .u64 5, .int .i64 o.e, .int .i64 o.ek, .int .i64 15] 64 (0, 0) : Obj) (by simp))
  obtain ⟨ppf0, ppf1, ppf2, ppf3, ppf4, ppf5, ppf6, ppf7⟩ := cell8s (HC.out.kept (w1.heap.size + 1) (.cells #[.int .i64 17, .int .i64 18, .int .i64 5, .int .i64 6, .int .i64 15, .int .i64 16, .int .i64 5, .int .i64 6] 91 (0, 0) : Obj) (by simp))
  go_wp2_with fail
  clear of0 of1 of2 of3 of4 of5 of6 of7 of8 of9 ppf0 ppf1 ppf2 ppf3 ppf4 ppf5 ppf6 ppf7
  refine (fixed_any _).mono ?_
  rintro e w' ⟨rfl, hb⟩
  go_wp2_with fail
  go_ret
  exact ⟨rfl, HC.out.low.trans (hb.mono HC.out.low.size)⟩
theorem walk (a0 a1 a2 : Int) (w : World) (w0 : (Lit.int .u8 a0).wf = true) (w1 : (Lit.int .u8 a1).wf = true) (w2 : (Lit.int .u8 a2).wf = true) : Calls Tryz.prog 9 #[.int .u8 a0, .int .u8 a1, .int .u8 a2] w fun e w' => e = .returned (.bool true) ∧ Below w.heap.size w w' := by
  have b0 := byte_in w0
  have b1 := byte_in w1
  have b2 := byte_in w2
  have pv := pick_in a2 14 w2 (by omega) (by omega)
  obtain ⟨x, hx⟩ : ∃ x : Nat, wrap64 (1 + (wrap64 a2).tmod 14) = (x : Int) := ⟨(wrap64 (1 + (wrap64 a2).tmod 14)).toNat, by omega⟩
  have m0 : (wrap64 a0).tmod 2 = 0 ∨ (wrap64 a0).tmod 2 = 1 := by rw [show wrap64 a0 = a0 by unfold wrap64; omega, Int.tmod_eq_emod_of_nonneg (by omega)]; omega
  have m1 : (wrap64 a1).tmod 2 = 0 ∨ (wrap64 a1).tmod 2 = 1 := by rw [show wrap64 a1 = a1 by unfold wrap64; omega, Int.tmod_eq_emod_of_nonneg (by omega)]; omega
  have hx1 : 1 ≤ x := by omega
  have hx2 : x ≤ 14 := by omega
  rcases m0 with e0 | e0 <;> rcases m1 with e1 | e1
  · obtain ⟨m, pn, L1, o, f, L2, T⟩ := turned_is 0 0 x (by omega) (by omega) hx1 hx2
    by_cases hn : x = 5
    · subst hn
      obtain ⟨rfl, h1, h2⟩ := T.good (by omega)
      exact walk00g a0 a1 a2 w w0 w1 w2 e0 e1 hx (Lib.hid T) h1 h2
    · obtain ⟨rfl, rfl⟩ := T.bad rfl hn
      exact walk00b a0 a1 a2 w w0 w1 w2 (o := zeroOpd) hx1 hx2 e0 e1 hx (Lib.hid T) (by simp; omega)
  · obtain ⟨m, pn, L1, o, f, L2, T⟩ := turned_is 0 1 x (by omega) (by omega) hx1 hx2
    obtain ⟨rfl, h1, h2⟩ := T.good (by omega)
    exact walk01g a0 a1 a2 w w0 w1 w2 hx1 hx2 e0 e1 hx (Lib.hid T) h1 h2
  · obtain ⟨m, pn, L1, o, f, L2, T⟩ := turned_is 1 0 x (by omega) (by omega) hx1 hx2
    obtain ⟨rfl, h1, h2⟩ := T.good (by omega)
    exact walk10g a0 a1 a2 w w0 w1 w2 hx1 hx2 e0 e1 hx (Lib.hid T) h1 h2
  · obtain ⟨m, pn, L1, o, f, L2, T⟩ := turned_is 1 1 x (by omega) (by omega) hx1 hx2
    by_cases hn : x = 6
    · subst hn
      obtain ⟨rfl, h1, h2⟩ := T.good (by omega)
      exact walk11g a0 a1 a2 w w0 w1 w2 e0 e1 hx (Lib.hid T) h1 h2
    · obtain ⟨rfl, rfl⟩ := T.bad rfl hn
      exact walk11b a0 a1 a2 w w0 w1 w2 (o := zeroOpd) hx1 hx2 e0 e1 hx (Lib.hid T) (by simp; omega)
set_option maxRecDepth 100000 in
theorem lifted (os : Os) (started : os.Started) (H : Type) (enc : TypeId × Value → H) :
    ReturnsInHanded {} Tryz.checked os 9 .any (fun w args => (Rows.handTurnedSpec.pre enc Tryz.prog Tryz.f9 [] false w args ∧ laidMetH Tryz.prog laidX w) ∧ sizedMet enc Tryz.prog Tryz.f9 (OpenSpec.ofChange Rows.handTurnedSpec) false w args) (Rows.handTurnedSpec.post enc Tryz.prog Tryz.f9 false true false false) := by
  refine returnsInHanded_of_change_and (C := Tryz.checked) (X := fun w _ => laidMetH Tryz.prog laidX w) (fun _ _ _ hh h => h.of_heap hh) own started (by kernel_rfl) Tryz.func9
    (ChangeSpec.witness_shaped (enc := enc) (C := Tryz.checked) (os := os) (X := fun w _ => laidMetH Tryz.prog laidX w) false (World.doorLaid Tryz.prog 400 os) #[.int .u8 0, .int .u8 0, .int .u8 0] 8 rfl (World.shaped_of_RefB (by kernel_rfl) (by kernel_rfl)) (by kernel_rfl) (by kernel_rfl) (by kernel_rfl) (door_met os _)) ?_
  intro W base args ds gs before hval0 hW hcnd _ _ _
  have hval : ∀ (j : Nat) t v, Tryz.f9.params[j]? = some t → args[j]? = some v → Value.okWide Tryz.prog W .any base t v := hval0
  have hW' := hW
  obtain ⟨p, q, hA0, hV, rfl, hfz, hnd⟩ := hW
  have hA : DataW.TrodAll enc Tryz.prog W 0 (fun _ => true) true Tryz.f9.params.toList args.toList ds p := hA0
  rw [Tryz.params9] at hA hval
  obtain ⟨v0, vs0, d0, ds0, p0, q0, hargs, rfl, rfl, h0, r0⟩ := trodAll_cons hA
  obtain ⟨v1, vs1, d1, ds1, p1, q1, rfl, rfl, rfl, h1, r1⟩ := trodAll_cons r0
  obtain ⟨v2, vs2, d2, ds2, p2, q2, rfl, rfl, rfl, h2, r2⟩ := trodAll_cons r1
  obtain ⟨rfl, rfl, rfl⟩ := trodAll_nil r2
  obtain rfl : args = #[v0, v1, v2] := by cases args; simp_all
  obtain ⟨rfl, rfl⟩ := trodVars_none hV
  obtain ⟨a0, rfl, rfl, rfl, w0⟩ := open_int Tryz.underlying5 (hval 0 5 v0 rfl rfl) h0
  obtain ⟨a1, rfl, rfl, rfl, w1⟩ := open_int Tryz.underlying5 (hval 1 5 v1 rfl rfl) h1
  obtain ⟨a2, rfl, rfl, rfl, w2⟩ := open_int Tryz.underlying5 (hval 2 5 v2 rfl rfl) h2
  clear hA0 hval0
  refine (walk a0 a1 a2 W w0 w1 w2).mono fun e W' ⟨he, bel⟩ => ?_
  subst he
  exact ⟨_, rfl, _, _, _, [], _, [], hW', trodAll_mk1 (shut_bool Tryz.underlying4 _), (trodAll_cons_mk (shut_int Tryz.underlying5 w0) (trodAll_cons_mk (shut_int Tryz.underlying5 w1) (trodAll_cons_mk (shut_int Tryz.underlying5 w2) trodAll_mk0))), rfl, bel.frame _, fun h => by cases h⟩

theorem over : Rows.handTurnedRow.holds Tryz.pinned (OpenSpec.ofChange Rows.handTurnedSpec) :=
  OpenClaim.holds_of_wide 9 Tryz.f9 rfl rfl rfl rfl rfl rfl rfl ⟨rfl, rfl, rfl, rfl, rfl⟩ rfl rfl rfl rfl rfl (by kernel_rfl) Tryz.func9 (by kernel_rfl)
    (of_decide_eq_true (by kernel_rfl)) (by unfold Func.isWrapper; first | (rw [if_pos (by decide +kernel)]; kernel_rfl) | (rw [if_neg (by decide +kernel)]; exact ⟨rfl, rfl⟩))
    (fun os started H enc _ => lifted os started H enc)

theorem proved : Rows.HandTurnedCardSaid :=
  Claim7.holds_tied_plain_at .later [] [.data, .data, .data] true (true, "214d8958b74491cbef1c0d449ff4d349e3047b1a9571b3ced18372bfe132fcea") true
    over (fun _ h => by cases h) (by kernel_rfl) (fun _ h => by cases h) handTurned_row_tie rfl ⟨rfl, rfl⟩ (by kernel_rfl) rfl
    (fun f fn hf hfn => by
      obtain rfl : f = 9 := Option.some.inj ((show Tryz.prog.funcNamed "sough/soughlaw17.HandTurned" = some 9 by kernel_rfl).symm.trans hf) |>.symm
      obtain rfl : fn = Tryz.f9 := (Option.some.inj (Tryz.func9.symm.trans hfn)).symm
      exact ⟨by kernel_rfl, fun j t ht => by
        rw [Tryz.params9] at ht
        have hm : t ∈ [5, 5, 5] := by simpa using Array.mem_of_getElem? ht
        have hall : ([5, 5, 5].all fun u => !Tryz.prog.wantsStandIn u) = true := by kernel_rfl
        exact (show Tryz.prog.wantsStandIn t = false by simpa using List.all_eq_true.1 hall t hm)⟩)
    (by kernel_rfl)
#print axioms proved
end Go.Proofs.YtgeonppckeiceaaGreatDoor.handTurned
