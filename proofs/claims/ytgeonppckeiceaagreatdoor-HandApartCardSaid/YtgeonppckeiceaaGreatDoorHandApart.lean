/- Two handshakes with other draws have unlike hashes, and no key in common, for every input. -/
import Derived.Test.YtgeonppckeiceaaGreatDoorCards
import Derived.Test.YtgeonppckeiceaaGreatDoorTie
import Derived.Test.YtgeonppckeiceaaGreatDoorHandR
import Derived.WalkKit
import Derived.ProofKit
import Derived.OpenShut
import Derived.ShutString
import Derived.ChangeOld
import Derived.Below
import Derived.LaidMore
import Derived.Stop.Joined
import Derived.SevenTiedAt
namespace Go.Proofs.YtgeonppckeiceaaGreatDoor.handApart
open Go.ChangeShapes Go.WideShapes Go.ChangeAt Go.RowKit
open Go.ChangeMaps (open_string shut_string)
open Go.Proofs.YtgeonppckeiceaaGreatDoor
set_option linter.unusedVariables false
set_option linter.unusedSimpArgs false

theorem own : ownKnob Tryz.prog.godebug = none := by kernel_rfl
theorem laidOut : laidOutB Tryz.prog = true := by kernel_rfl

abbrev laidX {H : Type} : List (String × DataW H) := [("math/bits.deBruijn32tab", Rows.laid_math_bits_deBruijn32tab), ("math/bits.deBruijn64tab", Rows.laid_math_bits_deBruijn64tab), ("internal/strconv.uint64pow10", Rows.laid_internal_strconv_uint64pow10)]
theorem door_met (os : Os) (args : Array Value) : laidMetH Tryz.prog laidX ((World.doorLaid Tryz.prog 400 os).forCall (fun _ _ => 0) ⟨#[], args, []⟩).memory :=
  laidMetH_of_parts3 (fuel := 8) (laidMet_of_run' 8 (by kernel_rfl) (by kernel_rfl)) (by kernel_rfl) (by kernel_rfl)

def wfB (m : Mg) : Bool := (List.range 13).all (fun j => j == 3 || (Lit.int (Ms.kCell j) (m.i j)).wf) && decide (m.s.size ≤ maxLen)
theorem wfB_wf {m : Mg} (h : wfB m = true) : Ms.Ms.Wf m := by
  unfold wfB at h
  rw [Bool.and_eq_true, List.all_eq_true] at h
  refine ⟨fun j hj => ?_, by simpa using h.2⟩
  have hlt : j < 13 ∧ j ≠ 3 := by simpa [Ms.nCell] using hj
  have := h.1 j (by simpa using hlt.1)
  simpa [hlt.2] using this
def syB (y : Sy) : Bool := (Lit.int .i64 y.CK).wf && (Lit.int .i64 y.K).wf && (Lit.int .i64 y.H).wf && (Lit.int .u64 y.N).wf
theorem syB_wf {y : Sy} (h : syB y = true) : y.Wf := by
  unfold syB at h
  simp only [Bool.and_eq_true] at h
  exact ⟨h.1.1.1, h.1.1.2, h.1.2, h.2⟩
structure Ds where
  a : Int
  b : Int
  c : Int
  d : Int
  e : Int
def dd : Nat → Ds
  | 0 => ⟨7, 8, 9, 10, 11⟩
  | 1 => ⟨12, 13, 14, 10, 11⟩
  | 2 => ⟨7, 8, 9, 12, 13⟩
  | _ => ⟨12, 13, 14, 8, 9⟩
def bG (D : Ds) (L : List Tm) := hBegin 5000 L (1, 2) pB 7 ⟨#[1]⟩ 0 5 D.a D.b D.c
def oG (D : Ds) (L : List Tm) := hOpen 5000 (bG D L).2.2.2 (3, 4) [pA] ⟨#[1]⟩ (bG D L).1
def aG (D : Ds) (L : List Tm) := hAnswer 5000 (oG D L).2.2 (oG D L).1 9 7 D.d D.e
def fG (D : Ds) (L : List Tm) := hFinish 5000 (aG D L).2.2.2 1 (bG D L).2.1 (aG D L).1
def runB (D : Ds) (L : List Tm) : Bool := (bG D L).2.2.1 == 0 && (oG D L).2.1 == 0 && (aG D L).2.2.1 == 0 && (fG D L).2.1 == 0 && wfB (bG D L).1 && wfB (aG D L).1 && syB (oG D L).1.y && syB (bG D L).2.1.y && (Lit.int .i64 (bG D L).2.1.e).wf && (Lit.int .i64 (bG D L).2.1.ek).wf
abbrev RunD (D : Ds) (L : List Tm) : Prop := RunIs D.a D.b D.c D.d D.e L (bG D L).1 (bG D L).2.1 (bG D L).2.2.2 (oG D L).1 (oG D L).2.2 (aG D L).1 (aG D L).2.1 (aG D L).2.2.2 (fG D L).1 (fG D L).2.2
theorem run_is {D : Ds} {L : List Tm} (h : runB D L = true) : RunD D L := by
  unfold runB at h
  simp only [Bool.and_eq_true, beq_iff_eq] at h
  obtain ⟨⟨⟨⟨⟨⟨⟨⟨⟨h1, h2⟩, h3⟩, h4⟩, h5⟩, h6⟩, h7⟩, h8⟩, h9⟩, h10⟩ := h
  exact ⟨Prod.ext rfl (Prod.ext rfl (Prod.ext h1 rfl)), Prod.ext rfl (Prod.ext h2 rfl), Prod.ext rfl (Prod.ext rfl (Prod.ext h3 rfl)), Prod.ext rfl (Prod.ext h4 rfl), wfB_wf h5, wfB_wf h6, syB_wf h7, syB_wf h8, h9, h10⟩
def apartB (a b : Nat) : Bool := runB (dd a) L18 && runB (dd b) (fG (dd a) L18).2.2 &&
  (let u := (fG (dd a) L18).1
   let v := (fG (dd b) (fG (dd a) L18).2.2).1
   if a == b then u.h == v.h && u.send == v.send && u.recv == v.recv && u.version == v.version else u.h != v.h && u.send != v.send && u.recv != v.recv && u.send != v.recv && u.recv != v.send)
set_option maxRecDepth 100000 in
theorem apart_all : ((List.range 4).all fun a => (List.range 4).all fun b => apartB a b) = true := by decide +kernel
theorem apart_is {a b : Nat} (ha : a < 4) (hb : b < 4) : ∃ (u v : Ses) (L1 L2 : List Tm), (∃ m q M1 o M2 r s M3, RunIs (dd a).a (dd a).b (dd a).c (dd a).d (dd a).e L18 m q M1 o M2 r s M3 u L1) ∧ (∃ m q M1 o M2 r s M3, RunIs (dd b).a (dd b).b (dd b).c (dd b).d (dd b).e L1 m q M1 o M2 r s M3 v L2) ∧ (a = b → u.h = v.h ∧ u.send = v.send ∧ u.recv = v.recv ∧ u.version = v.version) ∧ (a ≠ b → u.h ≠ v.h ∧ u.send ≠ v.send ∧ u.recv ≠ v.recv ∧ u.send ≠ v.recv ∧ u.recv ≠ v.send) := by
  have h := apart_all
  rw [List.all_eq_true] at h
  have h := h a (by simpa using ha)
  rw [List.all_eq_true] at h
  have h := h b (by simpa using hb)
  unfold apartB at h
  rw [Bool.and_eq_true, Bool.and_eq_true] at h
  obtain ⟨⟨h1, h2⟩, h⟩ := h
  refine ⟨(fG (dd a) L18).1, (fG (dd b) (fG (dd a) L18).2.2).1, (fG (dd a) L18).2.2, (fG (dd b) (fG (dd a) L18).2.2).2.2, ⟨_, _, _, _, _, _, _, _, run_is h1⟩, ⟨_, _, _, _, _, _, _, _, run_is h2⟩, fun e => ?_, fun e => ?_⟩
  · dsimp only at h
    rw [if_pos (by simpa using e)] at h
    simp only [Bool.and_eq_true, beq_iff_eq] at h
    exact ⟨h.1.1.1, h.1.1.2, h.1.2, h.2⟩
  · dsimp only at h
    rw [if_neg (by simpa using e)] at h
    simp only [Bool.and_eq_true, bne_iff_ne] at h
    exact ⟨h.1.1.1.1, h.1.1.1.2, h.1.1.2, h.1.2, h.2⟩
theorem run_any {base g : Nat} {L : List Tm} {bs : List (Nat × Obj)} {w0 w : World} (gN : Good base NoS) (h : Cs base (PSq base g 5000) NoS L [] bs w0 w) {u : Ses} {L4 : List Tm} {k : Nat} (hk : k < 4) (R : Hid (∃ m q M1 o M2 r s M3, RunIs (dd k).a (dd k).b (dd k).c (dd k).d (dd k).e L m q M1 o M2 r s M3 u L4)) :
    Calls Tryz.prog 39 #[.pointer (some ⟨g, 0, none⟩), .agg #[.int .i64 1, .int .i64 2, .int .i64 3, .int .i64 4], .agg #[.int .i64 17, .int .i64 18, .int .i64 5, .int .i64 6, .int .i64 15, .int .i64 16, .int .i64 5, .int .i64 6], .int .i64 (k : Int)] w fun e' w' => e' = .returned (.tuple #[u.v, .int .i64 0]) ∧ Cs base (PSq base g 5000) NoS L4 [] bs w0 w' := by
  obtain ⟨m, q, M1, o, M2, r, s, M3, R⟩ := R.out
  match k, hk with
  | 0, _ => exact run0 gN h (Lib.hid R)
  | 1, _ => exact run1 gN h (Lib.hid R)
  | 2, _ => exact run2 gN h (Lib.hid R)
  | 3, _ => exact run3 gN h (Lib.hid R)
  | n + 4, q => omega
set_option maxHeartbeats 4000000 in
theorem walkE (a0 a1 : Int) (w : World) {a : Nat} {u v : Ses} {L1 L2 : List Tm} (ha : a < 4) (e0 : (wrap64 a0).tmod 4 = (a : Int)) (e1 : (wrap64 a1).tmod 4 = (a : Int)) (RA : Hid (∃ m q M1 o M2 r s M3, RunIs (dd a).a (dd a).b (dd a).c (dd a).d (dd a).e L18 m q M1 o M2 r s M3 u L1)) (RB : Hid (∃ m q M1 o M2 r s M3, RunIs (dd a).a (dd a).b (dd a).c (dd a).d (dd a).e L1 m q M1 o M2 r s M3 v L2)) (hq : Hid (u.h = v.h ∧ u.send = v.send ∧ u.recv = v.recv ∧ u.version = v.version)) : Calls Tryz.prog 10 #[.int .u8 a0, .int .u8 a1] w fun e w' => e = .returned (.bool true) ∧ Below w.heap.size w w' := by
  have gN := NoS.good w.heap.size
  go_enter Tryz.func10, Tryz.ntmps10
  go_wp2_with fail
  refine (two_k w).mono ?_
  rintro e w1 ⟨g, rfl, h1⟩
  have gP := PSq.good w.heap.size g 5000
  have HC := Lib.hid h1
  clear h1
  replace HC := Lib.hid (HC.out.boxB gP gN #[.int .i64 1, .int .i64 2, .int .i64 3, .int .i64 4] 90 (b := w1.heap.size) (by simp))
  replace HC := Lib.hid (HC.out.boxB gP gN #[.int .i64 17, .int .i64 18, .int .i64 5, .int .i64 6, .int .i64 15, .int .i64 16, .int .i64 5, .int .i64 6] 91 (b := w1.heap.size + 1) (by simp))
  obtain ⟨mef0, mef1, mef2, mef3⟩ := cell4s (HC.out.kept (w1.heap.size) (.cells #[.int .i64 1, .int .i64 2, .int .i64 3, .int .i64 4] 90 (0, 0) : Obj) (by simp))
  obtain ⟨ppf0, ppf1, ppf2, ppf3, ppf4, ppf5, ppf6, ppf7⟩ := cell8s (HC.out.kept (w1.heap.size + 1) (.cells #[.int .i64 17, .int .i64 18, .int .i64 5, .int .i64 6, .int .i64 15, .int .i64 16, .int .i64 5, .int .i64 6] 91 (0, 0) : Obj) (by simp))
  go_wp2_with fail
  clear mef0 mef1 mef2 mef3 ppf0 ppf1 ppf2 ppf3 ppf4 ppf5 ppf6 ppf7
  refine (run_any gN HC.out ha RA).mono ?_
  rintro e w2 ⟨rfl, h⟩
  replace HC := Lib.hid h
  clear h
  simp only [Ses.v]
  replace HC := Lib.hid (HC.out.boxB gP gN #[.int .i64 u.h, .int .i64 u.send, .int .i64 u.recv, .int .i64 u.version] 75 (b := w2.heap.size) (by simp))
  go_upto_region 6 with fail
  obtain ⟨mef0, mef1, mef2, mef3⟩ := cell4s (HC.out.kept (w1.heap.size) (.cells #[.int .i64 1, .int .i64 2, .int .i64 3, .int .i64 4] 90 (0, 0) : Obj) (by simp))
  obtain ⟨ppf0, ppf1, ppf2, ppf3, ppf4, ppf5, ppf6, ppf7⟩ := cell8s (HC.out.kept (w1.heap.size + 1) (.cells #[.int .i64 17, .int .i64 18, .int .i64 5, .int .i64 6, .int .i64 15, .int .i64 16, .int .i64 5, .int .i64 6] 91 (0, 0) : Obj) (by simp))
  go_wp2_with fail
  clear mef0 mef1 mef2 mef3 ppf0 ppf1 ppf2 ppf3 ppf4 ppf5 ppf6 ppf7
  refine (run_any gN HC.out ha RB).mono ?_
  rintro e w3 ⟨rfl, h⟩
  replace HC := Lib.hid h
  clear h
  simp only [Ses.v]
  replace HC := Lib.hid (HC.out.boxB gP gN #[.int .i64 v.h, .int .i64 v.send, .int .i64 v.recv, .int .i64 v.version] 75 (b := w3.heap.size) (by simp))
  obtain ⟨q1, q2, q3, q4⟩ := hq.out
  obtain ⟨uf0, uf1, uf2, uf3⟩ := cell4s (HC.out.kept (w2.heap.size) (.cells #[.int .i64 u.h, .int .i64 u.send, .int .i64 u.recv, .int .i64 u.version] 75 (0, 0) : Obj) (by simp))
  obtain ⟨vf0, vf1, vf2, vf3⟩ := cell4s (HC.out.kept (w3.heap.size) (.cells #[.int .i64 v.h, .int .i64 v.send, .int .i64 v.recv, .int .i64 v.version] 75 (0, 0) : Obj) (by simp))
  go_wp2_with fail
  clear uf0 uf1 uf2 uf3 vf0 vf1 vf2 vf3
  refine (fixed_any _).mono ?_
  rintro e w' ⟨rfl, hb'⟩
  go_wp2_with fail
  go_ret
  exact ⟨rfl, HC.out.low.trans (hb'.mono HC.out.low.size)⟩
set_option maxHeartbeats 4000000 in
theorem walkN (a0 a1 : Int) (w : World) {a b : Nat} {u v : Ses} {L1 L2 : List Tm} (ha : a < 4) (hb : b < 4) (hab : a ≠ b) (e0 : (wrap64 a0).tmod 4 = (a : Int)) (e1 : (wrap64 a1).tmod 4 = (b : Int)) (RA : Hid (∃ m q M1 o M2 r s M3, RunIs (dd a).a (dd a).b (dd a).c (dd a).d (dd a).e L18 m q M1 o M2 r s M3 u L1)) (RB : Hid (∃ m q M1 o M2 r s M3, RunIs (dd b).a (dd b).b (dd b).c (dd b).d (dd b).e L1 m q M1 o M2 r s M3 v L2)) (hq : Hid (u.h ≠ v.h ∧ u.send ≠ v.send ∧ u.recv ≠ v.recv ∧ u.send ≠ v.recv ∧ u.recv ≠ v.send)) : Calls Tryz.prog 10 #[.int .u8 a0, .int .u8 a1] w fun e w' => e = .returned (.bool true) ∧ Below w.heap.size w w' := by
  have gN := NoS.good w.heap.size
  go_enter Tryz.func10, Tryz.ntmps10
  go_wp2_with fail
  refine (two_k w).mono ?_
  rintro e w1 ⟨g, rfl, h1⟩
  have gP := PSq.good w.heap.size g 5000
  have HC := Lib.hid h1
  clear h1
  replace HC := Lib.hid (HC.out.boxB gP gN #[.int .i64 1, .int .i64 2, .int .i64 3, .int .i64 4] 90 (b := w1.heap.size) (by simp))
  replace HC := Lib.hid (HC.out.boxB gP gN #[.int .i64 17, .int .i64 18, .int .i64 5, .int .i64 6, .int .i64 15, .int .i64 16, .int .i64 5, .int .i64 6] 91 (b := w1.heap.size + 1) (by simp))
  obtain ⟨mef0, mef1, mef2, mef3⟩ := cell4s (HC.out.kept (w1.heap.size) (.cells #[.int .i64 1, .int .i64 2, .int .i64 3, .int .i64 4] 90 (0, 0) : Obj) (by simp))
  obtain ⟨ppf0, ppf1, ppf2, ppf3, ppf4, ppf5, ppf6, ppf7⟩ := cell8s (HC.out.kept (w1.heap.size + 1) (.cells #[.int .i64 17, .int .i64 18, .int .i64 5, .int .i64 6, .int .i64 15, .int .i64 16, .int .i64 5, .int .i64 6] 91 (0, 0) : Obj) (by simp))
  go_wp2_with fail
  clear mef0 mef1 mef2 mef3 ppf0 ppf1 ppf2 ppf3 ppf4 ppf5 ppf6 ppf7
  refine (run_any gN HC.out ha RA).mono ?_
  rintro e w2 ⟨rfl, h⟩
  replace HC := Lib.hid h
  clear h
  simp only [Ses.v]
  replace HC := Lib.hid (HC.out.boxB gP gN #[.int .i64 u.h, .int .i64 u.send, .int .i64 u.recv, .int .i64 u.version] 75 (b := w2.heap.size) (by simp))
  go_upto_region 6 with fail
  obtain ⟨mef0, mef1, mef2, mef3⟩ := cell4s (HC.out.kept (w1.heap.size) (.cells #[.int .i64 1, .int .i64 2, .int .i64 3, .int .i64 4] 90 (0, 0) : Obj) (by simp))
  obtain ⟨ppf0, ppf1, ppf2, ppf3, ppf4, ppf5, ppf6, ppf7⟩ := cell8s (HC.out.kept (w1.heap.size + 1) (.cells #[.int .i64 17, .int .i64 18, .int .i64 5, .int .i64 6, .int .i64 15, .int .i64 16, .int .i64 5, .int .i64 6] 91 (0, 0) : Obj) (by simp))
  go_wp2_with fail
  clear mef0 mef1 mef2 mef3 ppf0 ppf1 ppf2 ppf3 ppf4 ppf5 ppf6 ppf7
  refine (run_any gN HC.out hb RB).mono ?_
  rintro e w3 ⟨rfl, h⟩
  replace HC := Lib.hid h
  clear h
  simp only [Ses.v]
  replace HC := Lib.hid (HC.out.boxB gP gN #[.int .i64 v.h, .int .i64 v.send, .int .i64 v.recv, .int .i64 v.version] 75 (b := w3.heap.size) (by simp))
  obtain ⟨q1, q2, q3, q4, q5⟩ := hq.out
  have n0 : ((a : Int) == (b : Int)) = false := by simpa using (fun e => hab (by omega))
  have n1 : (u.h != v.h) = true := by simpa using q1
  have n2 : (u.send != v.send) = true := by simpa using q2
  have n3 : (u.recv != v.recv) = true := by simpa using q3
  have n4 : (u.send != v.recv) = true := by simpa using q4
  have n5 : (u.recv != v.send) = true := by simpa using q5
  obtain ⟨uf0, uf1, uf2, uf3⟩ := cell4s (HC.out.kept (w2.heap.size) (.cells #[.int .i64 u.h, .int .i64 u.send, .int .i64 u.recv, .int .i64 u.version] 75 (0, 0) : Obj) (by simp))
  obtain ⟨vf0, vf1, vf2, vf3⟩ := cell4s (HC.out.kept (w3.heap.size) (.cells #[.int .i64 v.h, .int .i64 v.send, .int .i64 v.recv, .int .i64 v.version] 75 (0, 0) : Obj) (by simp))
  go_wp2_with fail
  clear uf0 uf1 uf2 uf3 vf0 vf1 vf2 vf3
  refine (fixed_any _).mono ?_
  rintro e w' ⟨rfl, hb'⟩
  go_wp2_with fail
  go_ret
  exact ⟨rfl, HC.out.low.trans (hb'.mono HC.out.low.size)⟩
theorem walk (a0 a1 : Int) (w : World) (w0 : (Lit.int .u8 a0).wf = true) (w1 : (Lit.int .u8 a1).wf = true) : Calls Tryz.prog 10 #[.int .u8 a0, .int .u8 a1] w fun e w' => e = .returned (.bool true) ∧ Below w.heap.size w w' := by
  have b0 := byte_in w0
  have b1 := byte_in w1
  have m0 : 0 ≤ (wrap64 a0).tmod 4 ∧ (wrap64 a0).tmod 4 < 4 := by rw [show wrap64 a0 = a0 by unfold wrap64; omega, Int.tmod_eq_emod_of_nonneg (by omega)]; omega
  have m1 : 0 ≤ (wrap64 a1).tmod 4 ∧ (wrap64 a1).tmod 4 < 4 := by rw [show wrap64 a1 = a1 by unfold wrap64; omega, Int.tmod_eq_emod_of_nonneg (by omega)]; omega
  obtain ⟨a, e0⟩ : ∃ n : Nat, (wrap64 a0).tmod 4 = (n : Int) := ⟨((wrap64 a0).tmod 4).toNat, by omega⟩
  obtain ⟨b, e1⟩ : ∃ n : Nat, (wrap64 a1).tmod 4 = (n : Int) := ⟨((wrap64 a1).tmod 4).toNat, by omega⟩
  have ha : a < 4 := by omega
  have hb : b < 4 := by omega
  obtain ⟨u, v, L1, L2, RA, RB, h1, h2⟩ := apart_is ha hb
  by_cases hab : a = b
  · subst hab
    exact walkE a0 a1 w ha e0 e1 (Lib.hid RA) (Lib.hid RB) (Lib.hid (h1 rfl))
  · exact walkN a0 a1 w ha hb hab e0 e1 (Lib.hid RA) (Lib.hid RB) (Lib.hid (h2 hab))
set_option maxRecDepth 100000 in
theorem lifted (os : Os) (started : os.Started) (H : Type) (enc : TypeId × Value → H) :
    ReturnsInHanded {} Tryz.checked os 10 .any (fun w args => (Rows.handApartSpec.pre enc Tryz.prog Tryz.f10 [] false w args ∧ laidMetH Tryz.prog laidX w) ∧ sizedMet enc Tryz.prog Tryz.f10 (OpenSpec.ofChange Rows.handApartSpec) false w args) (Rows.handApartSpec.post enc Tryz.prog Tryz.f10 false true false false) := by
  refine returnsInHanded_of_change_and (C := Tryz.checked) (X := fun w _ => laidMetH Tryz.prog laidX w) (fun _ _ _ hh h => h.of_heap hh) own started (by kernel_rfl) Tryz.func10
    (ChangeSpec.witness_shaped (enc := enc) (C := Tryz.checked) (os := os) (X := fun w _ => laidMetH Tryz.prog laidX w) false (World.doorLaid Tryz.prog 400 os) #[.int .u8 0, .int .u8 0] 8 rfl (World.shaped_of_RefB (by kernel_rfl) (by kernel_rfl)) (by kernel_rfl) (by kernel_rfl) (by kernel_rfl) (door_met os _)) ?_
  intro W base args ds gs before hval0 hW hcnd _ _ _
  have hval : ∀ (j : Nat) t v, Tryz.f10.params[j]? = some t → args[j]? = some v → Value.okWide Tryz.prog W .any base t v := hval0
  have hW' := hW
  obtain ⟨p, q, hA0, hV, rfl, hfz, hnd⟩ := hW
  have hA : DataW.TrodAll enc Tryz.prog W 0 (fun _ => true) true Tryz.f10.params.toList args.toList ds p := hA0
  rw [Tryz.params10] at hA hval
  obtain ⟨v0, vs0, d0, ds0, p0, q0, hargs, rfl, rfl, h0, r0⟩ := trodAll_cons hA
  obtain ⟨v1, vs1, d1, ds1, p1, q1, rfl, rfl, rfl, h1, r1⟩ := trodAll_cons r0
  obtain ⟨rfl, rfl, rfl⟩ := trodAll_nil r1
  obtain rfl : args = #[v0, v1] := by cases args; simp_all
  obtain ⟨rfl, rfl⟩ := trodVars_none hV
  obtain ⟨a0, rfl, rfl, rfl, w0⟩ := open_int Tryz.underlying5 (hval 0 5 v0 rfl rfl) h0
  obtain ⟨a1, rfl, rfl, rfl, w1⟩ := open_int Tryz.underlying5 (hval 1 5 v1 rfl rfl) h1
  clear hA0 hval0
  refine (walk a0 a1 W w0 w1).mono fun e W' ⟨he, bel⟩ => ?_
  subst he
  exact ⟨_, rfl, _, _, _, [], _, [], hW', trodAll_mk1 (shut_bool Tryz.underlying4 _), (trodAll_cons_mk (shut_int Tryz.underlying5 w0) (trodAll_cons_mk (shut_int Tryz.underlying5 w1) trodAll_mk0)), rfl, bel.frame _, fun h => by cases h⟩

theorem over : Rows.handApartRow.holds Tryz.pinned (OpenSpec.ofChange Rows.handApartSpec) :=
  OpenClaim.holds_of_wide 10 Tryz.f10 rfl rfl rfl rfl rfl rfl rfl ⟨rfl, rfl, rfl, rfl, rfl⟩ rfl rfl rfl rfl rfl (by kernel_rfl) Tryz.func10 (by kernel_rfl)
    (of_decide_eq_true (by kernel_rfl)) (by unfold Func.isWrapper; first | (rw [if_pos (by decide +kernel)]; kernel_rfl) | (rw [if_neg (by decide +kernel)]; exact ⟨rfl, rfl⟩))
    (fun os started H enc _ => lifted os started H enc)

theorem proved : Rows.HandApartCardSaid :=
  Claim7.holds_tied_plain_at .later [] [.data, .data, .data] true (true, "214d8958b74491cbef1c0d449ff4d349e3047b1a9571b3ced18372bfe132fcea") true
    over (fun _ h => by cases h) (by kernel_rfl) (fun _ h => by cases h) handApart_row_tie rfl ⟨rfl, rfl⟩ (by kernel_rfl) rfl
    (fun f fn hf hfn => by
      obtain rfl : f = 10 := Option.some.inj ((show Tryz.prog.funcNamed "sough/soughlaw17.HandApart" = some 10 by kernel_rfl).symm.trans hf) |>.symm
      obtain rfl : fn = Tryz.f10 := (Option.some.inj (Tryz.func10.symm.trans hfn)).symm
      exact ⟨by kernel_rfl, fun j t ht => by
        rw [Tryz.params10] at ht
        have hm : t ∈ [5, 5] := by simpa using Array.mem_of_getElem? ht
        have hall : ([5, 5].all fun u => !Tryz.prog.wantsStandIn u) = true := by kernel_rfl
        exact (show Tryz.prog.wantsStandIn t = false by simpa using List.all_eq_true.1 hall t hm)⟩)
    (by kernel_rfl)
#print axioms proved
end Go.Proofs.YtgeonppckeiceaaGreatDoor.handApart
