/- The calls whose answers the document fixes (by tools/stage17/fixed.py). -/
/- Rows of names: a row appended to a row of the call's own; what Can answers of a row, beside stores and boxes. -/
import Derived.Test.YtgeonppckeiceaaGreatDoorGq29
import Derived.BigRegion
import Derived.Test.YtgeonppckeiceaaGreatDoorGq40
import Derived.Laws.AppendOwn
namespace Go.Proofs.YtgeonppckeiceaaGreatDoor
open Go.RowKit
set_option linter.unusedVariables false
set_option linter.unusedSimpArgs false
set_option maxRecDepth 20000
theorem cell4s {u : World} {B : Nat} {c0 c1 c2 c3 : Value} {T : TypeId} (h : u.heap[B]? = some (.cells #[c0, c1, c2, c3] T (0, 0))) : u.cell? ⟨B, 0, none⟩ = some c0 ∧ u.cell? ⟨B, 1, none⟩ = some c1 ∧ u.cell? ⟨B, 2, none⟩ = some c2 ∧ u.cell? ⟨B, 3, none⟩ = some c3 := by
 refine ⟨?_, ?_, ?_, ?_⟩
 all_goals simp [World.cell?, h]
theorem cell7s {u : World} {B : Nat} {c0 c1 c2 c3 c4 c5 c6 : Value} {T : TypeId} (h : u.heap[B]? = some (.cells #[c0, c1, c2, c3, c4, c5, c6] T (0, 0))) : u.cell? ⟨B, 0, none⟩ = some c0 ∧ u.cell? ⟨B, 1, none⟩ = some c1 ∧ u.cell? ⟨B, 2, none⟩ = some c2 ∧ u.cell? ⟨B, 3, none⟩ = some c3 ∧ u.cell? ⟨B, 4, none⟩ = some c4 ∧ u.cell? ⟨B, 5, none⟩ = some c5 ∧ u.cell? ⟨B, 6, none⟩ = some c6 := by
 refine ⟨?_, ?_, ?_, ?_, ?_, ?_, ?_⟩
 all_goals simp [World.cell?, h]
theorem cell8s {u : World} {B : Nat} {c0 c1 c2 c3 c4 c5 c6 c7 : Value} {T : TypeId} (h : u.heap[B]? = some (.cells #[c0, c1, c2, c3, c4, c5, c6, c7] T (0, 0))) : u.cell? ⟨B, 0, none⟩ = some c0 ∧ u.cell? ⟨B, 1, none⟩ = some c1 ∧ u.cell? ⟨B, 2, none⟩ = some c2 ∧ u.cell? ⟨B, 3, none⟩ = some c3 ∧ u.cell? ⟨B, 4, none⟩ = some c4 ∧ u.cell? ⟨B, 5, none⟩ = some c5 ∧ u.cell? ⟨B, 6, none⟩ = some c6 ∧ u.cell? ⟨B, 7, none⟩ = some c7 := by
 refine ⟨?_, ?_, ?_, ?_, ?_, ?_, ?_, ?_⟩
 all_goals simp [World.cell?, h]
theorem cell10s {u : World} {B : Nat} {c0 c1 c2 c3 c4 c5 c6 c7 c8 c9 : Value} {T : TypeId} (h : u.heap[B]? = some (.cells #[c0, c1, c2, c3, c4, c5, c6, c7, c8, c9] T (0, 0))) : u.cell? ⟨B, 0, none⟩ = some c0 ∧ u.cell? ⟨B, 1, none⟩ = some c1 ∧ u.cell? ⟨B, 2, none⟩ = some c2 ∧ u.cell? ⟨B, 3, none⟩ = some c3 ∧ u.cell? ⟨B, 4, none⟩ = some c4 ∧ u.cell? ⟨B, 5, none⟩ = some c5 ∧ u.cell? ⟨B, 6, none⟩ = some c6 ∧ u.cell? ⟨B, 7, none⟩ = some c7 ∧ u.cell? ⟨B, 8, none⟩ = some c8 ∧ u.cell? ⟨B, 9, none⟩ = some c9 := by
 refine ⟨?_, ?_, ?_, ?_, ?_, ?_, ?_, ?_, ?_, ?_⟩
 all_goals simp [World.cell?, h]
theorem cell13s {u : World} {B : Nat} {c0 c1 c2 c3 c4 c5 c6 c7 c8 c9 c10 c11 c12 : Value} {T : TypeId} (h : u.heap[B]? = some (.cells #[c0, c1, c2, c3, c4, c5, c6, c7, c8, c9, c10, c11, c12] T (0, 0))) : u.cell? ⟨B, 0, none⟩ = some c0 ∧ u.cell? ⟨B, 1, none⟩ = some c1 ∧ u.cell? ⟨B, 2, none⟩ = some c2 ∧ u.cell? ⟨B, 3, none⟩ = some c3 ∧ u.cell? ⟨B, 4, none⟩ = some c4 ∧ u.cell? ⟨B, 5, none⟩ = some c5 ∧ u.cell? ⟨B, 6, none⟩ = some c6 ∧ u.cell? ⟨B, 7, none⟩ = some c7 ∧ u.cell? ⟨B, 8, none⟩ = some c8 ∧ u.cell? ⟨B, 9, none⟩ = some c9 ∧ u.cell? ⟨B, 10, none⟩ = some c10 ∧ u.cell? ⟨B, 11, none⟩ = some c11 ∧ u.cell? ⟨B, 12, none⟩ = some c12 := by
 refine ⟨?_, ?_, ?_, ?_, ?_, ?_, ?_, ?_, ?_, ?_, ?_, ?_, ?_⟩
 all_goals simp [World.cell?, h]
theorem Cs.boxB {base : Nat} {Q1 Q2 : (Nat → Prop) → List Tm → World → Prop} {L1 L2 : List Tm} {bs : List (Nat × Obj)} {w0 w : World} (g1 : Good base Q1) (g2 : Good base Q2) (h : Cs base Q1 Q2 L1 L2 bs w0 w) (cs : Array Value) (t : TypeId) {b : Nat} (hb : w.heap.size = b) :
  Cs base Q1 Q2 L1 L2 ((b, (.cells cs t (0, 0) : Obj)) :: bs) w0 (w.alloc (.cells cs t : Obj)) := by
 subst hb
 exact h.box g1 g2 cs t
theorem row_two {w : World} {b : Nat} {p q : Pr} {T : TypeId} (h : w.heap[b]? = some (.cells #[.int .i64 p.dh, .int .i64 p.kem, .int .i64 p.k0, .int .i64 p.k1, .int .i64 q.dh, .int .i64 q.kem, .int .i64 q.k0, .int .i64 q.k1] T (0, 0))) : RowP w (some ⟨b, 0, none⟩) [p, q] := by
 refine ⟨b, 0, fun j hj => ?_⟩
 match j, hj with
 | 0, _ => exact ⟨rfl, by simp [World.cell?, h], by simp [World.cell?, h], by simp [World.cell?, h], by simp [World.cell?, h]⟩
 | 1, _ => exact ⟨rfl, by simp [World.cell?, h], by simp [World.cell?, h], by simp [World.cell?, h], by simp [World.cell?, h]⟩
 | n + 2, q => simp at q; omega
theorem row_one {w : World} {b : Nat} {p : Pr} {T : TypeId} (h : w.heap[b]? = some (.cells #[.int .i64 p.dh, .int .i64 p.kem, .int .i64 p.k0, .int .i64 p.k1] T (0, 0))) : RowP w (some ⟨b, 0, none⟩) [p] := by
 refine ⟨b, 0, fun j hj => ?_⟩
 match j, hj with
 | 0, _ => exact ⟨rfl, by simp [World.cell?, h], by simp [World.cell?, h], by simp [World.cell?, h], by simp [World.cell?, h]⟩
 | n + 1, q => simp at q
def mIn (s : ByteArray) (slot : Int) : Mg := ⟨fun j => match j with | 1 => 7 | 4 => slot | _ => 0, s⟩
theorem mIn_wf {s : ByteArray} {slot : Int} (hs : s.size ≤ 1000) (h1 : 0 ≤ slot) (h2 : slot ≤ 10) : Ms.Ms.Wf (mIn s slot) := by
 refine ⟨fun j hj => ?_, ?_⟩
 ·have hlt : j < 13 := by simp [Ms.nCell] at hj; exact hj.1
  have z : U64 0 := u64_small (by omega) (by omega)
  match j, hj with
  | 0, _ => exact k0
  | 1, _ => exact u64_small (x := 7) (by omega) (by omega)
  | 2, _ => exact z
  | 3, h => simp [Ms.nCell] at h
  | 4, _ => exact i64_small (x := slot) h1 (by omega)
  | 5, _ => exact k0
  | 6, _ => exact k0
  | 7, _ => exact k0
  | 8, _ => exact k0
  | 9, _ => exact k0
  | 10, _ => exact k0
  | 11, _ => exact z
  | 12, _ => exact z
  | n + 13, _ => omega
 ·show s.size ≤ maxLen
  have : (1000 : Nat) ≤ maxLen := by decide
  omega
theorem pr_wf {a b c d : Int} (h1 : 0 ≤ a ∧ a ≤ 1000) (h2 : 0 ≤ b ∧ b ≤ 1000) (h3 : 0 ≤ c ∧ c ≤ 1000) (h4 : 0 ≤ d ∧ d ≤ 1000) : (⟨a, b, c, d⟩ : Pr).Wf := ⟨i64_small (x := a) h1.1 (by omega), i64_small (x := b) h2.1 (by omega), i64_small (x := c) h3.1 (by omega), i64_small (x := d) h4.1 (by omega)⟩
theorem pA_wf : pA.Wf := pr_wf (by omega) (by omega) (by omega) (by omega)
theorem pB_wf : pB.Wf := pr_wf (by omega) (by omega) (by omega) (by omega)
theorem pZ_wf : zeroPr.Wf := pr_wf (by omega) (by omega) (by omega) (by omega)
set_option maxHeartbeats 4000000 in
theorem fixed_any (w : World) : Calls Tryz.prog 32 #[] w fun e w' => e = .returned (.bool true) ∧ Below w.heap.size w w' := by
 obtain ⟨x, q, o, r, u, L1, L2, L3, L4, L5, L6, L7, FX⟩ := fix_is
 replace FX := Lib.hid FX
 have gN := NoS.good w.heap.size
 go_enter Tryz.func32, Tryz.ntmps32
 go_wp2_with fail
 refine (two_k w).mono ?_
 rintro e w1 ⟨g, rfl, h1⟩
 have gP := PSq.good w.heap.size g 5000
 have HC := Lib.hid h1
 clear h1
 replace HC := Lib.hid (HC.out.boxB gP gN #[.int .i64 1, .int .i64 2, .int .i64 3, .int .i64 4] 90 (b := w1.heap.size) (by simp))
 replace HC := Lib.hid (HC.out.boxB gP gN #[.int .i64 17, .int .i64 18, .int .i64 5, .int .i64 6, .int .i64 15, .int .i64 16, .int .i64 5, .int .i64 6] 91 (b := w1.heap.size + 1) (by simp))
 obtain ⟨mef0, mef1, mef2, mef3⟩ := cell4s (HC.out.kept (w1.heap.size) (.cells #[.int .i64 1, .int .i64 2, .int .i64 3, .int .i64 4] 90 (0, 0) : Obj) (by simp))
 obtain ⟨ppf0, ppf1, ppf2, ppf3, ppf4, ppf5, ppf6, ppf7⟩ := cell8s (HC.out.kept (w1.heap.size + 1) (.cells #[.int .i64 17, .int .i64 18, .int .i64 5, .int .i64 6, .int .i64 15, .int .i64 16, .int .i64 5, .int .i64 6] 91 (0, 0) : Obj) (by simp))
 go_wp2_with fail
 clear mef0 mef1 mef2 mef3 ppf0 ppf1 ppf2 ppf3 ppf4 ppf5 ppf6 ppf7
 refine (HC.out.hbegin gN (a1 := 1) (a2 := 2) (d0 := 7) (d1 := 8) (d2 := 9) (p := pB) (m0 := mIn ⟨#[3, 1]⟩ 1) (stamp := 300) k1 k2 pB_wf (mIn_wf (by decide) (by omega) (by omega)) (by omega) k7 k8 k9 FX.out.c1).mono ?_
 rintro e w2 ⟨rfl, h⟩
 replace HC := Lib.hid h
 clear h
 simp only [Ms.Ms.v, Ms.Ms.cl, Pnd.v]
 replace HC := Lib.hid (HC.out.boxB gP gN #[.int .i64 (x.i 0), .int .u64 (x.i 1), .int .u64 (x.i 2), .string x.s, .int .i64 (x.i 4), .int .i64 (x.i 5), .int .i64 (x.i 6), .int .i64 (x.i 7), .int .i64 (x.i 8), .int .i64 (x.i 9), .int .i64 (x.i 10), .int .u64 (x.i 11), .int .u64 (x.i 12)] 25 (b := w2.heap.size) (by simp))
 replace HC := Lib.hid (HC.out.boxB gP gN #[.int .i64 q.y.CK, .int .i64 q.y.K, .int .i64 q.y.H, .int .u64 q.y.N, .int .i64 q.e, .int .i64 q.ek, .string q.offer] 47 (b := w2.heap.size + 1) (by simp))
 obtain ⟨meg0, meg1, meg2, meg3⟩ := cell4s (HC.out.kept (w1.heap.size) (.cells #[.int .i64 1, .int .i64 2, .int .i64 3, .int .i64 4] 90 (0, 0) : Obj) (by simp))
 obtain ⟨ppg0, ppg1, ppg2, ppg3, ppg4, ppg5, ppg6, ppg7⟩ := cell8s (HC.out.kept (w1.heap.size + 1) (.cells #[.int .i64 17, .int .i64 18, .int .i64 5, .int .i64 6, .int .i64 15, .int .i64 16, .int .i64 5, .int .i64 6] 91 (0, 0) : Obj) (by simp))
 replace HC := Lib.hid (HC.out.boxB gP gN #[.int .i64 0, .int .i64 0, .int .i64 0, .int .i64 0, .int .i64 15, .int .i64 16, .int .i64 5, .int .i64 6] 43 (b := w2.heap.size + 1 + 1) (by simp))
 obtain ⟨xf0, xf1, xf2, xf3, xf4, xf5, xf6, xf7, xf8, xf9, xf10, xf11, xf12⟩ := cell13s (HC.out.kept (w2.heap.size) (.cells #[.int .i64 (x.i 0), .int .u64 (x.i 1), .int .u64 (x.i 2), .string x.s, .int .i64 (x.i 4), .int .i64 (x.i 5), .int .i64 (x.i 6), .int .i64 (x.i 7), .int .i64 (x.i 8), .int .i64 (x.i 9), .int .i64 (x.i 10), .int .u64 (x.i 11), .int .u64 (x.i 12)] 25 (0, 0) : Obj) (by simp))
 go_wp2_with fail
 clear meg0 meg1 meg2 meg3 ppg0 ppg1 ppg2 ppg3 ppg4 ppg5 ppg6 ppg7 xf0 xf1 xf2 xf3 xf4 xf5 xf6 xf7 xf8 xf9 xf10 xf11 xf12
 have HR : ∀ bs, ((w2.heap.size + 1 + 1, (.cells #[.int .i64 0, .int .i64 0, .int .i64 0, .int .i64 0, .int .i64 15, .int .i64 16, .int .i64 5, .int .i64 6] 43 (0, 0) : Obj)) : Nat × Obj) ∈ bs → RowB bs (some ⟨w2.heap.size + 1 + 1, 0, none⟩) [zeroPr, pA] := fun bs hm W hk => row_two (p := zeroPr) (q := pA) (hk (w2.heap.size + 1 + 1) (.cells #[.int .i64 0, .int .i64 0, .int .i64 0, .int .i64 0, .int .i64 15, .int .i64 16, .int .i64 5, .int .i64 6] 43 (0, 0) : Obj) hm)
 refine (HC.out.hopen gN (x := 3) (y := 4) (ps := [zeroPr, pA]) (offer := ⟨#[2, 1]⟩) k3 k4 (by rfl) (by decide) (HR _ (by simp)) (by simp; exact ⟨pZ_wf, pA_wf⟩) (by decide) FX.out.xw FX.out.c2).mono ?_
 rintro e w3 ⟨rfl, h⟩
 replace HC := Lib.hid h
 clear h HR
 simp only [Opd.v, zeroOpd, zeroY]
 replace HC := Lib.hid (HC.out.boxB gP gN #[.int .i64 o.y.CK, .int .i64 o.y.K, .int .i64 o.y.H, .int .u64 o.y.N, .int .i64 o.peer, .int .i64 o.version, .int .u64 o.stamp, .int .i64 o.e, .int .i64 o.ek, .int .i64 o.pub] 64 (b := w3.heap.size) (by simp))
 obtain ⟨of0, of1, of2, of3, of4, of5, of6, of7, of8, of9⟩ := cell10s (HC.out.kept (w3.heap.size) (.cells #[.int .i64 o.y.CK, .int .i64 o.y.K, .int .i64 o.y.H, .int .u64 o.y.N, .int .i64 o.peer, .int .i64 o.version, .int .u64 o.stamp, .int .i64 o.e, .int .i64 o.ek, .int .i64 o.pub] 64 (0, 0) : Obj) (by simp))
 go_wp2_with fail
 clear of0 of1 of2 of3 of4 of5 of6 of7 of8 of9
 refine (HC.out.hanswer gN (o := o) (fr := 9) (tt := 7) (d0 := 10) (d1 := 11) FX.out.oy (u64_small (by omega) (by omega)) (u64_small (by omega) (by omega)) k10 k11 FX.out.c3).mono ?_
 rintro e w4 ⟨rfl, h⟩
 replace HC := Lib.hid h
 clear h
 simp only [Ms.Ms.v, Ms.Ms.cl, Ses.v]
 replace HC := Lib.hid (HC.out.boxB gP gN #[.int .i64 (r.i 0), .int .u64 (r.i 1), .int .u64 (r.i 2), .string r.s, .int .i64 (r.i 4), .int .i64 (r.i 5), .int .i64 (r.i 6), .int .i64 (r.i 7), .int .i64 (r.i 8), .int .i64 (r.i 9), .int .i64 (r.i 10), .int .u64 (r.i 11), .int .u64 (r.i 12)] 25 (b := w4.heap.size) (by simp))
 replace HC := Lib.hid (HC.out.boxB gP gN #[.int .i64 u.h, .int .i64 u.send, .int .i64 u.recv, .int .i64 u.version] 75 (b := w4.heap.size + 1) (by simp))
 obtain ⟨mef0, mef1, mef2, mef3⟩ := cell4s (HC.out.kept (w1.heap.size) (.cells #[.int .i64 1, .int .i64 2, .int .i64 3, .int .i64 4] 90 (0, 0) : Obj) (by simp))
 obtain ⟨qf0, qf1, qf2, qf3, qf4, qf5, qf6⟩ := cell7s (HC.out.kept (w2.heap.size + 1) (.cells #[.int .i64 q.y.CK, .int .i64 q.y.K, .int .i64 q.y.H, .int .u64 q.y.N, .int .i64 q.e, .int .i64 q.ek, .string q.offer] 47 (0, 0) : Obj) (by simp))
 obtain ⟨rf0, rf1, rf2, rf3, rf4, rf5, rf6, rf7, rf8, rf9, rf10, rf11, rf12⟩ := cell13s (HC.out.kept (w4.heap.size) (.cells #[.int .i64 (r.i 0), .int .u64 (r.i 1), .int .u64 (r.i 2), .string r.s, .int .i64 (r.i 4), .int .i64 (r.i 5), .int .i64 (r.i 6), .int .i64 (r.i 7), .int .i64 (r.i 8), .int .i64 (r.i 9), .int .i64 (r.i 10), .int .u64 (r.i 11), .int .u64 (r.i 12)] 25 (0, 0) : Obj) (by simp))
 go_wp2_with fail
 clear mef0 mef1 mef2 mef3 qf0 qf1 qf2 qf3 qf4 qf5 qf6 rf0 rf1 rf2 rf3 rf4 rf5 rf6 rf7 rf8 rf9 rf10 rf11 rf12
 refine (HC.out.hfinish gN (x := 1) (y := 2) (p := q) (m := r) k1 FX.out.qy ⟨by rw [FX.out.qe]; exact k7, by rw [FX.out.qk]; exact k8⟩ FX.out.rw FX.out.c4).mono ?_
 rintro e w5 ⟨rfl, h⟩
 replace HC := Lib.hid h
 clear h
 simp only [Ses.v]
 replace HC := Lib.hid (HC.out.boxB gP gN #[.int .i64 u.h, .int .i64 u.recv, .int .i64 u.send, .int .i64 1] 75 (b := w5.heap.size) (by simp))
 obtain ⟨ppg0, ppg1, ppg2, ppg3, ppg4, ppg5, ppg6, ppg7⟩ := cell8s (HC.out.kept (w1.heap.size + 1) (.cells #[.int .i64 17, .int .i64 18, .int .i64 5, .int .i64 6, .int .i64 15, .int .i64 16, .int .i64 5, .int .i64 6] 91 (0, 0) : Obj) (by simp))
 replace HC := Lib.hid (HC.out.boxB gP gN #[.int .i64 15, .int .i64 16, .int .i64 5, .int .i64 5] 43 (b := w5.heap.size + 1) (by simp))
 obtain ⟨meg0, meg1, meg2, meg3⟩ := cell4s (HC.out.kept (w1.heap.size) (.cells #[.int .i64 1, .int .i64 2, .int .i64 3, .int .i64 4] 90 (0, 0) : Obj) (by simp))
 replace HC := Lib.hid (HC.out.boxB gP gN #[.int .i64 15, .int .i64 16, .int .i64 5, .int .i64 5] 43 (b := w5.heap.size + 1 + 1) (by simp))
 obtain ⟨xf0, xf1, xf2, xf3, xf4, xf5, xf6, xf7, xf8, xf9, xf10, xf11, xf12⟩ := cell13s (HC.out.kept (w2.heap.size) (.cells #[.int .i64 (x.i 0), .int .u64 (x.i 1), .int .u64 (x.i 2), .string x.s, .int .i64 (x.i 4), .int .i64 (x.i 5), .int .i64 (x.i 6), .int .i64 (x.i 7), .int .i64 (x.i 8), .int .i64 (x.i 9), .int .i64 (x.i 10), .int .u64 (x.i 11), .int .u64 (x.i 12)] 25 (0, 0) : Obj) (by simp))
 go_wp2_with fail
 clear ppg0 ppg1 ppg2 ppg3 ppg4 ppg5 ppg6 ppg7 meg0 meg1 meg2 meg3 xf0 xf1 xf2 xf3 xf4 xf5 xf6 xf7 xf8 xf9 xf10 xf11 xf12
 have HR : ∀ bs, ((w5.heap.size + 1 + 1, (.cells #[.int .i64 15, .int .i64 16, .int .i64 5, .int .i64 5] 43 (0, 0) : Obj)) : Nat × Obj) ∈ bs → RowB bs (some ⟨w5.heap.size + 1 + 1, 0, none⟩) [(⟨15, 16, 5, 5⟩ : Pr)] := fun bs hm W hk => row_one (p := (⟨15, 16, 5, 5⟩ : Pr)) (hk (w5.heap.size + 1 + 1) (.cells #[.int .i64 15, .int .i64 16, .int .i64 5, .int .i64 5] 43 (0, 0) : Obj) hm)
 refine (HC.out.hopen gN (x := 3) (y := 4) (ps := [(⟨15, 16, 5, 5⟩ : Pr)]) (offer := ⟨#[2, 1]⟩) k3 k4 (by rfl) (by decide) (HR _ (by simp)) (by simp; exact pr_wf (by omega) (by omega) (by omega) (by omega)) (by decide) FX.out.xw FX.out.c5).mono ?_
 rintro e w6 ⟨rfl, h⟩
 replace HC := Lib.hid h
 clear h HR
 simp only [Opd.v, zeroOpd, zeroY]
 replace HC := Lib.hid (HC.out.boxB gP gN #[.int .i64 0, .int .i64 0, .int .i64 0, .int .u64 0, .int .i64 0, .int .i64 0, .int .u64 0, .int .i64 0, .int .i64 0, .int .i64 0] 64 (b := w6.heap.size) (by simp))
 obtain ⟨meg0, meg1, meg2, meg3⟩ := cell4s (HC.out.kept (w1.heap.size) (.cells #[.int .i64 1, .int .i64 2, .int .i64 3, .int .i64 4] 90 (0, 0) : Obj) (by simp))
 obtain ⟨ppg0, ppg1, ppg2, ppg3, ppg4, ppg5, ppg6, ppg7⟩ := cell8s (HC.out.kept (w1.heap.size + 1) (.cells #[.int .i64 17, .int .i64 18, .int .i64 5, .int .i64 6, .int .i64 15, .int .i64 16, .int .i64 5, .int .i64 6] 91 (0, 0) : Obj) (by simp))
 replace HC := Lib.hid (HC.out.boxB gP gN #[.int .i64 17, .int .i64 18, .int .i64 5, .int .i64 6] 43 (b := w6.heap.size + 1) (by simp))
 obtain ⟨xf0, xf1, xf2, xf3, xf4, xf5, xf6, xf7, xf8, xf9, xf10, xf11, xf12⟩ := cell13s (HC.out.kept (w2.heap.size) (.cells #[.int .i64 (x.i 0), .int .u64 (x.i 1), .int .u64 (x.i 2), .string x.s, .int .i64 (x.i 4), .int .i64 (x.i 5), .int .i64 (x.i 6), .int .i64 (x.i 7), .int .i64 (x.i 8), .int .i64 (x.i 9), .int .i64 (x.i 10), .int .u64 (x.i 11), .int .u64 (x.i 12)] 25 (0, 0) : Obj) (by simp))
 go_wp2_with fail
 clear meg0 meg1 meg2 meg3 ppg0 ppg1 ppg2 ppg3 ppg4 ppg5 ppg6 ppg7 xf0 xf1 xf2 xf3 xf4 xf5 xf6 xf7 xf8 xf9 xf10 xf11 xf12
 have HR : ∀ bs, ((w6.heap.size + 1, (.cells #[.int .i64 17, .int .i64 18, .int .i64 5, .int .i64 6] 43 (0, 0) : Obj)) : Nat × Obj) ∈ bs → RowB bs (some ⟨w6.heap.size + 1, 0, none⟩) [pB] := fun bs hm W hk => row_one (p := pB) (hk (w6.heap.size + 1) (.cells #[.int .i64 17, .int .i64 18, .int .i64 5, .int .i64 6] 43 (0, 0) : Obj) hm)
 refine (HC.out.hopen gN (x := 3) (y := 4) (ps := [pB]) (offer := ⟨#[2, 1]⟩) k3 k4 (by rfl) (by decide) (HR _ (by simp)) (by simp; exact pB_wf) (by decide) FX.out.xw FX.out.c6).mono ?_
 rintro e w7 ⟨rfl, h⟩
 replace HC := Lib.hid h
 clear h HR
 simp only [Opd.v, zeroOpd, zeroY]
 replace HC := Lib.hid (HC.out.boxB gP gN #[.int .i64 0, .int .i64 0, .int .i64 0, .int .u64 0, .int .i64 0, .int .i64 0, .int .u64 0, .int .i64 0, .int .i64 0, .int .i64 0] 64 (b := w7.heap.size) (by simp))
 obtain ⟨meg0, meg1, meg2, meg3⟩ := cell4s (HC.out.kept (w1.heap.size) (.cells #[.int .i64 1, .int .i64 2, .int .i64 3, .int .i64 4] 90 (0, 0) : Obj) (by simp))
 obtain ⟨ppg0, ppg1, ppg2, ppg3, ppg4, ppg5, ppg6, ppg7⟩ := cell8s (HC.out.kept (w1.heap.size + 1) (.cells #[.int .i64 17, .int .i64 18, .int .i64 5, .int .i64 6, .int .i64 15, .int .i64 16, .int .i64 5, .int .i64 6] 91 (0, 0) : Obj) (by simp))
 replace HC := Lib.hid (HC.out.boxB gP gN #[.int .i64 15, .int .i64 16, .int .i64 5, .int .i64 6] 43 (b := w7.heap.size + 1) (by simp))
 obtain ⟨xf0, xf1, xf2, xf3, xf4, xf5, xf6, xf7, xf8, xf9, xf10, xf11, xf12⟩ := cell13s (HC.out.kept (w2.heap.size) (.cells #[.int .i64 (x.i 0), .int .u64 (x.i 1), .int .u64 (x.i 2), .string x.s, .int .i64 (x.i 4), .int .i64 (x.i 5), .int .i64 (x.i 6), .int .i64 (x.i 7), .int .i64 (x.i 8), .int .i64 (x.i 9), .int .i64 (x.i 10), .int .u64 (x.i 11), .int .u64 (x.i 12)] 25 (0, 0) : Obj) (by simp))
 go_wp2_with fail
 clear meg0 meg1 meg2 meg3 ppg0 ppg1 ppg2 ppg3 ppg4 ppg5 ppg6 ppg7 xf0 xf1 xf2 xf3 xf4 xf5 xf6 xf7 xf8 xf9 xf10 xf11 xf12
 have HR : ∀ bs, ((w7.heap.size + 1, (.cells #[.int .i64 15, .int .i64 16, .int .i64 5, .int .i64 6] 43 (0, 0) : Obj)) : Nat × Obj) ∈ bs → RowB bs (some ⟨w7.heap.size + 1, 0, none⟩) [pA] := fun bs hm W hk => row_one (p := pA) (hk (w7.heap.size + 1) (.cells #[.int .i64 15, .int .i64 16, .int .i64 5, .int .i64 6] 43 (0, 0) : Obj) hm)
 refine (HC.out.hopen gN (x := 3) (y := 4) (ps := [pA]) (offer := ⟨#[2]⟩) k3 k4 (by rfl) (by decide) (HR _ (by simp)) (by simp; exact pA_wf) (by decide) FX.out.xw FX.out.c7).mono ?_
 rintro e w8 ⟨rfl, h⟩
 replace HC := Lib.hid h
 clear h HR
 simp only [Opd.v, zeroOpd, zeroY]
 replace HC := Lib.hid (HC.out.boxB gP gN #[.int .i64 0, .int .i64 0, .int .i64 0, .int .u64 0, .int .i64 0, .int .i64 0, .int .u64 0, .int .i64 0, .int .i64 0, .int .i64 0] 64 (b := w8.heap.size) (by simp))
 obtain ⟨meg0, meg1, meg2, meg3⟩ := cell4s (HC.out.kept (w1.heap.size) (.cells #[.int .i64 1, .int .i64 2, .int .i64 3, .int .i64 4] 90 (0, 0) : Obj) (by simp))
 obtain ⟨ppg0, ppg1, ppg2, ppg3, ppg4, ppg5, ppg6, ppg7⟩ := cell8s (HC.out.kept (w1.heap.size + 1) (.cells #[.int .i64 17, .int .i64 18, .int .i64 5, .int .i64 6, .int .i64 15, .int .i64 16, .int .i64 5, .int .i64 6] 91 (0, 0) : Obj) (by simp))
 replace HC := Lib.hid (HC.out.boxB gP gN #[.int .i64 15, .int .i64 16, .int .i64 5, .int .i64 6] 43 (b := w8.heap.size + 1) (by simp))
 obtain ⟨xf0, xf1, xf2, xf3, xf4, xf5, xf6, xf7, xf8, xf9, xf10, xf11, xf12⟩ := cell13s (HC.out.kept (w2.heap.size) (.cells #[.int .i64 (x.i 0), .int .u64 (x.i 1), .int .u64 (x.i 2), .string x.s, .int .i64 (x.i 4), .int .i64 (x.i 5), .int .i64 (x.i 6), .int .i64 (x.i 7), .int .i64 (x.i 8), .int .i64 (x.i 9), .int .i64 (x.i 10), .int .u64 (x.i 11), .int .u64 (x.i 12)] 25 (0, 0) : Obj) (by simp))
 go_wp2_with fail
 clear meg0 meg1 meg2 meg3 ppg0 ppg1 ppg2 ppg3 ppg4 ppg5 ppg6 ppg7 xf0 xf1 xf2 xf3 xf4 xf5 xf6 xf7 xf8 xf9 xf10 xf11 xf12
 have HR : ∀ bs, ((w8.heap.size + 1, (.cells #[.int .i64 15, .int .i64 16, .int .i64 5, .int .i64 6] 43 (0, 0) : Obj)) : Nat × Obj) ∈ bs → RowB bs (some ⟨w8.heap.size + 1, 0, none⟩) [pA] := fun bs hm W hk => row_one (p := pA) (hk (w8.heap.size + 1) (.cells #[.int .i64 15, .int .i64 16, .int .i64 5, .int .i64 6] 43 (0, 0) : Obj) hm)
 refine (HC.out.hopen gN (x := 1) (y := 2) (ps := [pA]) (offer := ⟨#[2, 1]⟩) k1 k2 (by rfl) (by decide) (HR _ (by simp)) (by simp; exact pA_wf) (by decide) FX.out.xw FX.out.c8).mono ?_
 rintro e w9 ⟨rfl, h⟩
 replace HC := Lib.hid h
 clear h HR
 simp only [Opd.v, zeroOpd, zeroY]
 replace HC := Lib.hid (HC.out.boxB gP gN #[.int .i64 0, .int .i64 0, .int .i64 0, .int .u64 0, .int .i64 0, .int .i64 0, .int .u64 0, .int .i64 0, .int .i64 0, .int .i64 0] 64 (b := w9.heap.size) (by simp))
 obtain ⟨mef0, mef1, mef2, mef3⟩ := cell4s (HC.out.kept (w1.heap.size) (.cells #[.int .i64 1, .int .i64 2, .int .i64 3, .int .i64 4] 90 (0, 0) : Obj) (by simp))
 obtain ⟨qf0, qf1, qf2, qf3, qf4, qf5, qf6⟩ := cell7s (HC.out.kept (w2.heap.size + 1) (.cells #[.int .i64 q.y.CK, .int .i64 q.y.K, .int .i64 q.y.H, .int .u64 q.y.N, .int .i64 q.e, .int .i64 q.ek, .string q.offer] 47 (0, 0) : Obj) (by simp))
 obtain ⟨xf0, xf1, xf2, xf3, xf4, xf5, xf6, xf7, xf8, xf9, xf10, xf11, xf12⟩ := cell13s (HC.out.kept (w2.heap.size) (.cells #[.int .i64 (x.i 0), .int .u64 (x.i 1), .int .u64 (x.i 2), .string x.s, .int .i64 (x.i 4), .int .i64 (x.i 5), .int .i64 (x.i 6), .int .i64 (x.i 7), .int .i64 (x.i 8), .int .i64 (x.i 9), .int .i64 (x.i 10), .int .u64 (x.i 11), .int .u64 (x.i 12)] 25 (0, 0) : Obj) (by simp))
 go_wp2_with fail
 clear mef0 mef1 mef2 mef3 qf0 qf1 qf2 qf3 qf4 qf5 qf6 xf0 xf1 xf2 xf3 xf4 xf5 xf6 xf7 xf8 xf9 xf10 xf11 xf12
 refine (HC.out.hfinish gN (x := 1) (y := 2) (p := q) (m := x) k1 FX.out.qy ⟨by rw [FX.out.qe]; exact k7, by rw [FX.out.qk]; exact k8⟩ FX.out.xw FX.out.c9).mono ?_
 rintro e w10 ⟨rfl, h⟩
 replace HC := Lib.hid h
 clear h
 simp only [Ses.v, zeroSes]
 replace HC := Lib.hid (HC.out.boxB gP gN #[.int .i64 0, .int .i64 0, .int .i64 0, .int .i64 0] 75 (b := w10.heap.size) (by simp))
 obtain ⟨mef0, mef1, mef2, mef3⟩ := cell4s (HC.out.kept (w1.heap.size) (.cells #[.int .i64 1, .int .i64 2, .int .i64 3, .int .i64 4] 90 (0, 0) : Obj) (by simp))
 obtain ⟨ppf0, ppf1, ppf2, ppf3, ppf4, ppf5, ppf6, ppf7⟩ := cell8s (HC.out.kept (w1.heap.size + 1) (.cells #[.int .i64 17, .int .i64 18, .int .i64 5, .int .i64 6, .int .i64 15, .int .i64 16, .int .i64 5, .int .i64 6] 91 (0, 0) : Obj) (by simp))
 go_wp2_with fail
 clear mef0 mef1 mef2 mef3 ppf0 ppf1 ppf2 ppf3 ppf4 ppf5 ppf6 ppf7
 refine (HC.out.hbegin gN (a1 := 1) (a2 := 2) (d0 := 7) (d1 := 8) (d2 := 9) (p := pB) (m0 := mIn ⟨#[3]⟩ 2) (stamp := 300) k1 k2 pB_wf (mIn_wf (by decide) (by omega) (by omega)) (by omega) k7 k8 k9 FX.out.c10).mono ?_
 rintro e w11 ⟨rfl, h⟩
 replace HC := Lib.hid h
 clear h
 simp only [Ms.Ms.v, Ms.Ms.cl, Pnd.v, zeroMg, zeroPnd, zeroY]
 replace HC := Lib.hid (HC.out.boxB gP gN #[.int .i64 0, .int .u64 0, .int .u64 0, .string ByteArray.empty, .int .i64 0, .int .i64 0, .int .i64 0, .int .i64 0, .int .i64 0, .int .i64 0, .int .i64 0, .int .u64 0, .int .u64 0] 25 (b := w11.heap.size) (by simp))
 replace HC := Lib.hid (HC.out.boxB gP gN #[.int .i64 0, .int .i64 0, .int .i64 0, .int .u64 0, .int .i64 0, .int .i64 0, .string ByteArray.empty] 47 (b := w11.heap.size + 1) (by simp))
 have Fx0 := FX.out.x0
 have Fx1 := FX.out.x1
 have Fr0 := FX.out.r0
 have Fr1 := FX.out.r1
 have Fr2 := FX.out.r2
 have Fo1 := FX.out.o1
 have Fo2 := FX.out.o2
 have Fo3 := FX.out.o3
 have Fu1 := FX.out.u1
 have Fus := FX.out.us
 obtain ⟨xf0, xf1, xf2, xf3, xf4, xf5, xf6, xf7, xf8, xf9, xf10, xf11, xf12⟩ := cell13s (HC.out.kept (w2.heap.size) (.cells #[.int .i64 (x.i 0), .int .u64 (x.i 1), .int .u64 (x.i 2), .string x.s, .int .i64 (x.i 4), .int .i64 (x.i 5), .int .i64 (x.i 6), .int .i64 (x.i 7), .int .i64 (x.i 8), .int .i64 (x.i 9), .int .i64 (x.i 10), .int .u64 (x.i 11), .int .u64 (x.i 12)] 25 (0, 0) : Obj) (by simp))
 obtain ⟨of0, of1, of2, of3, of4, of5, of6, of7, of8, of9⟩ := cell10s (HC.out.kept (w3.heap.size) (.cells #[.int .i64 o.y.CK, .int .i64 o.y.K, .int .i64 o.y.H, .int .u64 o.y.N, .int .i64 o.peer, .int .i64 o.version, .int .u64 o.stamp, .int .i64 o.e, .int .i64 o.ek, .int .i64 o.pub] 64 (0, 0) : Obj) (by simp))
 obtain ⟨rf0, rf1, rf2, rf3, rf4, rf5, rf6, rf7, rf8, rf9, rf10, rf11, rf12⟩ := cell13s (HC.out.kept (w4.heap.size) (.cells #[.int .i64 (r.i 0), .int .u64 (r.i 1), .int .u64 (r.i 2), .string r.s, .int .i64 (r.i 4), .int .i64 (r.i 5), .int .i64 (r.i 6), .int .i64 (r.i 7), .int .i64 (r.i 8), .int .i64 (r.i 9), .int .i64 (r.i 10), .int .u64 (r.i 11), .int .u64 (r.i 12)] 25 (0, 0) : Obj) (by simp))
 obtain ⟨uf0, uf1, uf2, uf3⟩ := cell4s (HC.out.kept (w4.heap.size + 1) (.cells #[.int .i64 u.h, .int .i64 u.send, .int .i64 u.recv, .int .i64 u.version] 75 (0, 0) : Obj) (by simp))
 obtain ⟨vf0, vf1, vf2, vf3⟩ := cell4s (HC.out.kept (w5.heap.size) (.cells #[.int .i64 u.h, .int .i64 u.recv, .int .i64 u.send, .int .i64 1] 75 (0, 0) : Obj) (by simp))
 go_wp2_with fail
 clear xf0 xf1 xf2 xf3 xf4 xf5 xf6 xf7 xf8 xf9 xf10 xf11 xf12 of0 of1 of2 of3 of4 of5 of6 of7 of8 of9 rf0 rf1 rf2 rf3 rf4 rf5 rf6 rf7 rf8 rf9 rf10 rf11 rf12 uf0 uf1 uf2 uf3 vf0 vf1 vf2 vf3
 go_ret
 refine ⟨?_, HC.out.low⟩
 show Ending.returned (.bool (u.send != u.recv)) = _
 rw [show (u.send != u.recv) = true from by simpa using FX.out.us]
theorem intsR_len (xs : List Int) : (intsR xs).length = xs.length := by simp [intsR]
theorem intsR_app (xs ys : List Int) : intsR (xs ++ ys) = intsR xs ++ intsR ys := by simp [intsR]
theorem ints_one1 (ys : List Int) : ∀ u ∈ intsR ys, u.oneCell' = true := by
 intro u hu
 simp only [intsR, List.mem_map] at hu
 obtain ⟨x, _, rfl⟩ := hu
 rfl
def RowIn (w : World) (ad : Addr) (ys : List Int) : Prop := ∀ j u, (intsR ys)[j]? = some u → w.cell? (ad.add j) = some u
theorem OwnI.rowIn {base g n cap : Nat} {ys : List Int} {w : World} (h : OwnI base (.slice (some ⟨g, 0, none⟩) n cap) ys w) : RowIn w ⟨g, 0, none⟩ ys := fun j u hu => World.ownsRow.cells h (g := g) rfl j u hu
theorem OwnI.form {base : Nat} {v : Value} {ys : List Int} {w : World} (h : OwnI base v ys w) (h0 : ys ≠ []) : ∃ g cap, v = .slice (some ⟨g, 0, none⟩) ys.length cap := by
 obtain ⟨g, cap, rfl, _⟩ := World.ownsRow.form h (List.length_pos_iff.2 h0)
 exact ⟨g, cap, rfl⟩
theorem OwnI.ofOwn {base : Nat} {v : Value} {ys : List Int} {w : World} (h : Ms.Own 3 .i64 base v ys w) : OwnI base v ys w := h
theorem OwnI.lower {base b : Nat} {v : Value} {M : List Int} {w : World} (h : OwnI base v M w) (hb : b ≤ base) : OwnI b v M w := h.low hb
section
variable {o : Oper} {a : Act} {w : World}
theorem oper_appN {K : Act → World → Prop} {Q : Exit → Act → World → Prop} (s x : Operand) (ho : o.op = .call { callee := .builtin .append, args := #[s, x], argTypes := #[94, 94] })
  (base : Nat) (v : Value) (xs ys : List Int) (hs : a.eval s = v) (hown : OwnI base v xs w) (ad : Addr) (m c : Nat) (hx : a.eval x = .slice (some ad) m c) (hm : m = ys.length) (hy : RowIn w ad ys) (hl : xs.length + ys.length ≤ 1000) (hbase : base ≤ w.heap.size)
  (h : ∀ v' w', OwnI base v' (xs ++ ys) w' → Below base w w' → K (a.put o.dst v') w') : o.wp Tryz.prog a w K Q := by
 obtain ⟨i0, hi0, hz0, hz1, hz2⟩ := info_parts (show (Tryz.prog.info? 3).map (fun i => (i.zero, i.size, i.bytes)) = some (some (.int .i64 0), 1, 8) by kernel_rfl)
 subst hm
 have hml : xs.length + ys.length ≤ maxLen := by
  have : (1000 : Nat) ≤ maxLen := by decide
  omega
 refine wp_append_own w s x 94 ho base 3 i0 (.int .i64 0) 1 8 Tryz.underlying94 hi0 hz0 hz1 hz2 rfl (by decide) v xs.length (intsR xs) hs hown ad ys.length c (intsR ys) hx (by rw [intsR_len]; omega) hy (ints_one1 ys) hml (by omega) hbase ?_
 intro v' w' h1 h2 _
 refine h v' w' ?_ ((Chg.grown h2).below (fun j hj => (World.ownsRow.lt hown j hj.symm).1) hbase)
 unfold OwnI
 rw [List.length_append, intsR_app]
 exact h1
theorem wpList_appN {ops : Array Oper} {rest : List Oper} {Q : Exit → Act → World → Prop} (hgd : o.guard = none) (s x : Operand) (ho : o.op = .call { callee := .builtin .append, args := #[s, x], argTypes := #[94, 94] })
  (base : Nat) (v : Value) (xs ys : List Int) (hs : a.eval s = v) (hown : OwnI base v xs w) (ad : Addr) (m c : Nat) (hx : a.eval x = .slice (some ad) m c) (hm : m = ys.length) (hy : RowIn w ad ys) (hl : xs.length + ys.length ≤ 1000) (hbase : base ≤ w.heap.size)
  (h : ∀ v' w', OwnI base v' (xs ++ ys) w' → Below base w w' → wpList Tryz.prog ops Q rest (a.put o.dst v') w') : wpList Tryz.prog ops Q (o :: rest) a w :=
 wpList_plain hgd fun _ hK => oper_appN s x ho base v xs ys hs hown ad m c hx hm hy hl hbase fun v' w' h1 h2 => hK _ _ (h v' w' h1 h2)
end
theorem can_own {base g : Nat} {most : Int} {Q2 : (Nat → Prop) → List Tm → World → Prop} {L L2 : List Tm} {bs : List (Nat × Obj)} {w0 w1 w : World} (g2 : Good base Q2) (h : Cs base (PSq base g most) Q2 L L2 bs w0 w1) (hf : Fine L) (hb : Below w1.heap.size w1 w)
  {dh kem : Bool} {ks : List Int} {C : Int → Bool} (hC : Least L ks dh kem C) (hin : ∀ x, x ∈ ks → InL L x) {name : Int} (hm : InL L name) {b : Nat} {a : Option Addr} {n cap : Nat} (hr : OwnI b (.slice a n cap) ks w) {r : Bool} (hr2 : C name = r) :
  Calls Tryz.prog 38 #[.pointer (some ⟨g, 0, none⟩), .slice a n cap, .agg #[.bool dh, .bool kem], .int .i64 name] w fun e w' => e = .returned (.tuple #[.bool r, .int .i64 0]) ∧ Below w.heap.size w w' := by
 subst hr2
 exact can_least ((h.pair.known hf).below hb) hC hin hm a cap n hr.ints.1 hr.ints.2
end Go.Proofs.YtgeonppckeiceaaGreatDoor
