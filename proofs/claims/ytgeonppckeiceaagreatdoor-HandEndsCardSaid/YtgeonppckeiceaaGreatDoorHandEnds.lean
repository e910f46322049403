/- What is no answer does not end a handshake; an answer ends the one that it answers, and no other one, for every input. -/
import Derived.Test.YtgeonppckeiceaaGreatDoorCards
import Derived.Test.YtgeonppckeiceaaGreatDoorTie
import Derived.Test.YtgeonppckeiceaaGreatDoorGp43
import Derived.Test.YtgeonppckeiceaaGreatDoorHandE
import Derived.WalkKit
import Derived.ProofKit
import Derived.OpenShut
import Derived.ShutString
import Derived.ChangeOld
import Derived.Below
import Derived.LaidMore
import Derived.Stop.Joined
import Derived.SevenTiedAt
namespace Go.Proofs.YtgeonppckeiceaaGreatDoor.handEnds
open Go.ChangeShapes Go.WideShapes Go.ChangeAt Go.RowKit
open Go.ChangeMaps (open_string shut_string)
open Go.Proofs.YtgeonppckeiceaaGreatDoor
set_option linter.unusedVariables false
set_option linter.unusedSimpArgs false

theorem own : ownKnob Tryz.prog.godebug = none := by kernel_rfl
theorem laidOut : laidOutB Tryz.prog = true := by kernel_rfl

abbrev laidX {H : Type} : List (String × DataW H) := [("math/bits.deBruijn32tab", Rows.laid_math_bits_deBruijn32tab), ("math/bits.deBruijn64tab", Rows.laid_math_bits_deBruijn64tab), ("internal/strconv.uint64pow10", Rows.laid_internal_strconv_uint64pow10)]
theorem door_met (os : Os) (args : Array Value) : laidMetH Tryz.prog laidX ((World.doorLaid Tryz.prog 400 os).forCall (fun _ _ => 0) ⟨#[], args, []⟩).memory :=
  laidMetH_of_parts3 (fuel := 8) (laidMet_of_run' 8 (by kernel_rfl) (by kernel_rfl)) (by kernel_rfl) (by kernel_rfl)

def m8 (offer : ByteArray) : Mg := ⟨fun j => match j with | 1 => 8 | _ => 0, offer⟩
theorem m8_wf {offer : ByteArray} (ho : offer.size ≤ maxLen) : Ms.Ms.Wf (m8 offer) := by
  refine ⟨fun j hj => ?_, ho⟩
  have hlt : j < 13 := by simp [Ms.nCell] at hj; exact hj.1
  have z : U64 0 := u64_small (by omega) (by omega)
  match j, hj with
  | 0, _ => exact k0
  | 1, _ => exact u64_small (x := 8) (by omega) (by omega)
  | 2, _ => exact z
  | 3, h => simp [Ms.nCell] at h
  | 4, _ => exact k0
  | 5, _ => exact k0
  | 6, _ => exact k0
  | 7, _ => exact k0
  | 8, _ => exact k0
  | 9, _ => exact k0
  | 10, _ => exact k0
  | 11, _ => exact z
  | 12, _ => exact z
  | n + 13, _ => omega
set_option maxHeartbeats 40000000 in
set_option maxRecDepth 200000 in
theorem walk0 (a1 : Int) (w : World) {n : Nat} (hn0 : Hid (n < 256)) (eN0 : Hid (IntKind.u64.wrap (n : Int) = (n : Int))) {m m2 r : Mg} {q v : Pnd} {y : Sy} {u : Ses} {f : Int} {L1 L2 L3 L4 L5 L6 L7 L8 : List Tm} (e1 : (wrap64 a1).tmod 3 = 0) (S : Hid (EndsIs n 7 13 14 m m2 r q v y u f L1 L2 L3 L4 L5 L6 L7 L8)) (hf : (f != 0) = true) : Calls Tryz.prog 11 #[.int .u8 (n : Int), .int .u8 a1] w fun e w' => e = .returned (.bool true) ∧ Below w.heap.size w w' := by
  have gN := NoS.good w.heap.size
  go_enter Tryz.func11, Tryz.ntmps11
  go_wp2_with fail
  refine (two_k w).mono ?_
  rintro e w1 ⟨g, rfl, h1⟩
  have gP := PSq.good w.heap.size g 5000
  have HC := Lib.hid h1
  clear h1
  replace HC := Lib.hid (HC.out.boxB gP gN #[.int .i64 1, .int .i64 2, .int .i64 3, .int .i64 4] 90 (b := w1.heap.size) (by simp))
  replace HC := Lib.hid (HC.out.boxB gP gN #[.int .i64 17, .int .i64 18, .int .i64 5, .int .i64 6, .int .i64 15, .int .i64 16, .int .i64 5, .int .i64 6] 91 (b := w1.heap.size + 1) (by simp))
  obtain ⟨mef0, mef1, mef2, mef3⟩ := cell4s (HC.out.kept (w1.heap.size) (.cells #[.int .i64 1, .int .i64 2, .int .i64 3, .int .i64 4] 90 (0, 0) : Obj) (by simp))
  obtain ⟨ppf0, ppf1, ppf2, ppf3, ppf4, ppf5, ppf6, ppf7⟩ := cell8s (HC.out.kept (w1.heap.size + 1) (.cells #[.int .i64 17, .int .i64 18, .int .i64 5, .int .i64 6, .int .i64 15, .int .i64 16, .int .i64 5, .int .i64 6] 91 (0, 0) : Obj) (by simp))
  go_wp2_with fail
  clear mef0 mef1 mef2 mef3 ppf0 ppf1 ppf2 ppf3 ppf4 ppf5 ppf6 ppf7
  have hn := hn0.out
  rw [eN0.out]
  refine (HC.out.hbegin gN (a1 := 1) (a2 := 2) (d0 := 7) (d1 := 8) (d2 := 9) (p := pB) (m0 := mIn ⟨#[2, 1]⟩ 0) (stamp := n) k1 k2 pB_wf (mIn_wf (by decide) (by omega) (by omega)) (by omega) (i64_small (by omega) (by omega)) (i64_small (by omega) (by omega)) (i64_small (by omega) (by omega)) S.out.c1).mono ?_
  rintro e w2 ⟨rfl, h⟩
  replace HC := Lib.hid h
  clear h hn
  simp only [Ms.Ms.v, Ms.Ms.cl, Pnd.v]
  replace HC := Lib.hid (HC.out.boxB gP gN #[.int .i64 (m.i 0), .int .u64 (m.i 1), .int .u64 (m.i 2), .string m.s, .int .i64 (m.i 4), .int .i64 (m.i 5), .int .i64 (m.i 6), .int .i64 (m.i 7), .int .i64 (m.i 8), .int .i64 (m.i 9), .int .i64 (m.i 10), .int .u64 (m.i 11), .int .u64 (m.i 12)] 25 (b := w2.heap.size) (by simp))
  replace HC := Lib.hid (HC.out.boxB gP gN #[.int .i64 q.y.CK, .int .i64 q.y.K, .int .i64 q.y.H, .int .u64 q.y.N, .int .i64 q.e, .int .i64 q.ek, .string q.offer] 47 (b := w2.heap.size + 1) (by simp))
  go_upto_region 7 with fail
  replace HC := Lib.hid (HC.out.boxB gP gN #[.int .i64 7, .int .i64 13, .int .i64 14] 50 (b := w2.heap.size + 1 + 1) (by simp))
  obtain ⟨mef0, mef1, mef2, mef3⟩ := cell4s (HC.out.kept (w1.heap.size) (.cells #[.int .i64 1, .int .i64 2, .int .i64 3, .int .i64 4] 90 (0, 0) : Obj) (by simp))
  obtain ⟨ppf0, ppf1, ppf2, ppf3, ppf4, ppf5, ppf6, ppf7⟩ := cell8s (HC.out.kept (w1.heap.size + 1) (.cells #[.int .i64 17, .int .i64 18, .int .i64 5, .int .i64 6, .int .i64 15, .int .i64 16, .int .i64 5, .int .i64 6] 91 (0, 0) : Obj) (by simp))
  obtain ⟨df0, df1, df2⟩ := cell3s (HC.out.kept (w2.heap.size + 1 + 1) (.cells #[.int .i64 7, .int .i64 13, .int .i64 14] 50 (0, 0) : Obj) (by simp))
  go_wp2_with fail
  clear mef0 mef1 mef2 mef3 ppf0 ppf1 ppf2 ppf3 ppf4 ppf5 ppf6 ppf7 df0 df1 df2
  have hn := hn0.out
  rw [eN0.out]
  refine (HC.out.hbegin gN (a1 := 1) (a2 := 2) (d0 := 7) (d1 := 13) (d2 := 14) (p := pB) (m0 := m8 ⟨#[2, 1]⟩) (stamp := n) k1 k2 pB_wf (m8_wf (by decide)) (by omega) (i64_small (by omega) (by omega)) (i64_small (by omega) (by omega)) (i64_small (by omega) (by omega)) S.out.c2).mono ?_
  rintro e w3 ⟨rfl, h⟩
  replace HC := Lib.hid h
  clear h hn
  simp only [Ms.Ms.v, Ms.Ms.cl, Pnd.v]
  replace HC := Lib.hid (HC.out.boxB gP gN #[.int .i64 (m2.i 0), .int .u64 (m2.i 1), .int .u64 (m2.i 2), .string m2.s, .int .i64 (m2.i 4), .int .i64 (m2.i 5), .int .i64 (m2.i 6), .int .i64 (m2.i 7), .int .i64 (m2.i 8), .int .i64 (m2.i 9), .int .i64 (m2.i 10), .int .u64 (m2.i 11), .int .u64 (m2.i 12)] 25 (b := w3.heap.size) (by simp))
  replace HC := Lib.hid (HC.out.boxB gP gN #[.int .i64 v.y.CK, .int .i64 v.y.K, .int .i64 v.y.H, .int .u64 v.y.N, .int .i64 v.e, .int .i64 v.ek, .string v.offer] 47 (b := w3.heap.size + 1) (by simp))
  obtain ⟨meg0, meg1, meg2, meg3⟩ := cell4s (HC.out.kept (w1.heap.size) (.cells #[.int .i64 1, .int .i64 2, .int .i64 3, .int .i64 4] 90 (0, 0) : Obj) (by simp))
  obtain ⟨ppg0, ppg1, ppg2, ppg3, ppg4, ppg5, ppg6, ppg7⟩ := cell8s (HC.out.kept (w1.heap.size + 1) (.cells #[.int .i64 17, .int .i64 18, .int .i64 5, .int .i64 6, .int .i64 15, .int .i64 16, .int .i64 5, .int .i64 6] 91 (0, 0) : Obj) (by simp))
  replace HC := Lib.hid (HC.out.boxB gP gN #[.int .i64 15, .int .i64 16, .int .i64 5, .int .i64 6] 43 (b := w3.heap.size + 1 + 1) (by simp))
  obtain ⟨mf0, mf1, mf2, mf3, mf4, mf5, mf6, mf7, mf8, mf9, mf10, mf11, mf12⟩ := cell13s (HC.out.kept (w2.heap.size) (.cells #[.int .i64 (m.i 0), .int .u64 (m.i 1), .int .u64 (m.i 2), .string m.s, .int .i64 (m.i 4), .int .i64 (m.i 5), .int .i64 (m.i 6), .int .i64 (m.i 7), .int .i64 (m.i 8), .int .i64 (m.i 9), .int .i64 (m.i 10), .int .u64 (m.i 11), .int .u64 (m.i 12)] 25 (0, 0) : Obj) (by simp))
  go_wp2_with fail
  clear meg0 meg1 meg2 meg3 ppg0 ppg1 ppg2 ppg3 ppg4 ppg5 ppg6 ppg7 mf0 mf1 mf2 mf3 mf4 mf5 mf6 mf7 mf8 mf9 mf10 mf11 mf12
  have HR : ∀ bs, ((w3.heap.size + 1 + 1, (.cells #[.int .i64 15, .int .i64 16, .int .i64 5, .int .i64 6] 43 (0, 0) : Obj)) : Nat × Obj) ∈ bs → RowB bs (some ⟨w3.heap.size + 1 + 1, 0, none⟩) [pA] := fun bs hm W hk => row_one (p := pA) (hk (w3.heap.size + 1 + 1) (.cells #[.int .i64 15, .int .i64 16, .int .i64 5, .int .i64 6] 43 (0, 0) : Obj) hm)
  refine (HC.out.hopen gN (x := 3) (y := 4) (ps := [pA]) (offer := ⟨#[1]⟩) k3 k4 (by rfl) (by decide) (HR _ (by simp)) (by simp; exact pA_wf) (by decide) S.out.mw S.out.c3).mono ?_
  rintro e w4 ⟨rfl, h⟩
  replace HC := Lib.hid h
  clear h HR
  simp only [Opd.v]
  replace HC := Lib.hid (HC.out.boxB gP gN #[.int .i64 y.CK, .int .i64 y.K, .int .i64 y.H, .int .u64 y.N, .int .i64 0, .int .i64 1, .int .u64 n, .int .i64 (m.i 6), .int .i64 (m.i 7), .int .i64 15] 64 (b := w4.heap.size) (by simp))
  obtain ⟨of0, of1, of2, of3, of4, of5, of6, of7, of8, of9⟩ := cell10s (HC.out.kept (w4.heap.size) (.cells #[.int .i64 y.CK, .int .i64 y.K, .int .i64 y.H, .int .u64 y.N, .int .i64 0, .int .i64 1, .int .u64 n, .int .i64 (m.i 6), .int .i64 (m.i 7), .int .i64 15] 64 (0, 0) : Obj) (by simp))
  go_wp2_with fail
  clear of0 of1 of2 of3 of4 of5 of6 of7 of8 of9
  refine (HC.out.hanswer gN (o := ⟨y, 0, 1, n, m.i 6, m.i 7, 15⟩) (fr := 9) (tt := 7) (d0 := 10) (d1 := 11) S.out.oy (u64_small (by omega) (by omega)) (u64_small (by omega) (by omega)) (i64_small (by omega) (by omega)) (i64_small (by omega) (by omega)) S.out.c4).mono ?_
  rintro e w5 ⟨rfl, h⟩
  replace HC := Lib.hid h
  clear h
  simp only [Ms.Ms.v, Ms.Ms.cl, Ses.v]
  replace HC := Lib.hid (HC.out.boxB gP gN #[.int .i64 (r.i 0), .int .u64 (r.i 1), .int .u64 (r.i 2), .string r.s, .int .i64 (r.i 4), .int .i64 (r.i 5), .int .i64 (r.i 6), .int .i64 (r.i 7), .int .i64 (r.i 8), .int .i64 (r.i 9), .int .i64 (r.i 10), .int .u64 (r.i 11), .int .u64 (r.i 12)] 25 (b := w5.heap.size) (by simp))
  replace HC := Lib.hid (HC.out.boxB gP gN #[.int .i64 u.h, .int .i64 u.send, .int .i64 u.recv, .int .i64 u.version] 75 (b := w5.heap.size + 1) (by simp))
  obtain ⟨mef0, mef1, mef2, mef3⟩ := cell4s (HC.out.kept (w1.heap.size) (.cells #[.int .i64 1, .int .i64 2, .int .i64 3, .int .i64 4] 90 (0, 0) : Obj) (by simp))
  obtain ⟨qf0, qf1, qf2, qf3, qf4, qf5, qf6⟩ := cell7s (HC.out.kept (w2.heap.size + 1) (.cells #[.int .i64 q.y.CK, .int .i64 q.y.K, .int .i64 q.y.H, .int .u64 q.y.N, .int .i64 q.e, .int .i64 q.ek, .string q.offer] 47 (0, 0) : Obj) (by simp))
  obtain ⟨rf0, rf1, rf2, rf3, rf4, rf5, rf6, rf7, rf8, rf9, rf10, rf11, rf12⟩ := cell13s (HC.out.kept (w5.heap.size) (.cells #[.int .i64 (r.i 0), .int .u64 (r.i 1), .int .u64 (r.i 2), .string r.s, .int .i64 (r.i 4), .int .i64 (r.i 5), .int .i64 (r.i 6), .int .i64 (r.i 7), .int .i64 (r.i 8), .int .i64 (r.i 9), .int .i64 (r.i 10), .int .u64 (r.i 11), .int .u64 (r.i 12)] 25 (0, 0) : Obj) (by simp))
  go_wp2_with fail
  clear mef0 mef1 mef2 mef3 qf0 qf1 qf2 qf3 qf4 qf5 qf6 rf0 rf1 rf2 rf3 rf4 rf5 rf6 rf7 rf8 rf9 rf10 rf11 rf12
  refine (HC.out.hfinish gN (x := 1) (y := 2) (p := q) (m := r) k1 S.out.qy ⟨by rw [S.out.qe]; exact i64_small (by omega) (by omega), by rw [S.out.qk]; exact i64_small (by omega) (by omega)⟩ S.out.rw S.out.c5).mono ?_
  rintro e w6 ⟨rfl, h⟩
  replace HC := Lib.hid h
  clear h
  simp only [Ses.v, zeroSes]
  replace HC := Lib.hid (HC.out.boxB gP gN #[.int .i64 u.h, .int .i64 u.recv, .int .i64 u.send, .int .i64 1] 75 (b := w6.heap.size) (by simp))
  obtain ⟨mef0, mef1, mef2, mef3⟩ := cell4s (HC.out.kept (w1.heap.size) (.cells #[.int .i64 1, .int .i64 2, .int .i64 3, .int .i64 4] 90 (0, 0) : Obj) (by simp))
  obtain ⟨qf0, qf1, qf2, qf3, qf4, qf5, qf6⟩ := cell7s (HC.out.kept (w2.heap.size + 1) (.cells #[.int .i64 q.y.CK, .int .i64 q.y.K, .int .i64 q.y.H, .int .u64 q.y.N, .int .i64 q.e, .int .i64 q.ek, .string q.offer] 47 (0, 0) : Obj) (by simp))
  obtain ⟨rf0, rf1, rf2, rf3, rf4, rf5, rf6, rf7, rf8, rf9, rf10, rf11, rf12⟩ := cell13s (HC.out.kept (w5.heap.size) (.cells #[.int .i64 (r.i 0), .int .u64 (r.i 1), .int .u64 (r.i 2), .string r.s, .int .i64 (r.i 4), .int .i64 (r.i 5), .int .i64 (r.i 6), .int .i64 (r.i 7), .int .i64 (r.i 8), .int .i64 (r.i 9), .int .i64 (r.i 10), .int .u64 (r.i 11), .int .u64 (r.i 12)] 25 (0, 0) : Obj) (by simp))
  go_wp2_with fail
  clear mef0 mef1 mef2 mef3 qf0 qf1 qf2 qf3 qf4 qf5 qf6 rf0 rf1 rf2 rf3 rf4 rf5 rf6 rf7 rf8 rf9 rf10 rf11 rf12
  refine (HC.out.hfinish gN (x := 1) (y := 2) (p := q) (m := r) k1 S.out.qy ⟨by rw [S.out.qe]; exact i64_small (by omega) (by omega), by rw [S.out.qk]; exact i64_small (by omega) (by omega)⟩ S.out.rw S.out.c6).mono ?_
  rintro e w7 ⟨rfl, h⟩
  replace HC := Lib.hid h
  clear h
  simp only [Ses.v, zeroSes]
  replace HC := Lib.hid (HC.out.boxB gP gN #[.int .i64 u.h, .int .i64 u.recv, .int .i64 u.send, .int .i64 1] 75 (b := w7.heap.size) (by simp))
  obtain ⟨mef0, mef1, mef2, mef3⟩ := cell4s (HC.out.kept (w1.heap.size) (.cells #[.int .i64 1, .int .i64 2, .int .i64 3, .int .i64 4] 90 (0, 0) : Obj) (by simp))
  obtain ⟨vf0, vf1, vf2, vf3, vf4, vf5, vf6⟩ := cell7s (HC.out.kept (w3.heap.size + 1) (.cells #[.int .i64 v.y.CK, .int .i64 v.y.K, .int .i64 v.y.H, .int .u64 v.y.N, .int .i64 v.e, .int .i64 v.ek, .string v.offer] 47 (0, 0) : Obj) (by simp))
  obtain ⟨rf0, rf1, rf2, rf3, rf4, rf5, rf6, rf7, rf8, rf9, rf10, rf11, rf12⟩ := cell13s (HC.out.kept (w5.heap.size) (.cells #[.int .i64 (r.i 0), .int .u64 (r.i 1), .int .u64 (r.i 2), .string r.s, .int .i64 (r.i 4), .int .i64 (r.i 5), .int .i64 (r.i 6), .int .i64 (r.i 7), .int .i64 (r.i 8), .int .i64 (r.i 9), .int .i64 (r.i 10), .int .u64 (r.i 11), .int .u64 (r.i 12)] 25 (0, 0) : Obj) (by simp))
  go_wp2_with fail
  clear mef0 mef1 mef2 mef3 vf0 vf1 vf2 vf3 vf4 vf5 vf6 rf0 rf1 rf2 rf3 rf4 rf5 rf6 rf7 rf8 rf9 rf10 rf11 rf12
  refine (HC.out.hfinish gN (x := 1) (y := 2) (p := v) (m := r) k1 S.out.vy ⟨by rw [S.out.ve]; exact i64_small (by omega) (by omega), by rw [S.out.vk]; exact i64_small (by omega) (by omega)⟩ S.out.rw S.out.c7).mono ?_
  rintro e w8 ⟨rfl, h⟩
  replace HC := Lib.hid h
  clear h
  simp only [Ses.v, zeroSes]
  replace HC := Lib.hid (HC.out.boxB gP gN #[.int .i64 0, .int .i64 0, .int .i64 0, .int .i64 0] 75 (b := w8.heap.size) (by simp))
  obtain ⟨mef0, mef1, mef2, mef3⟩ := cell4s (HC.out.kept (w1.heap.size) (.cells #[.int .i64 1, .int .i64 2, .int .i64 3, .int .i64 4] 90 (0, 0) : Obj) (by simp))
  obtain ⟨qf0, qf1, qf2, qf3, qf4, qf5, qf6⟩ := cell7s (HC.out.kept (w2.heap.size + 1) (.cells #[.int .i64 q.y.CK, .int .i64 q.y.K, .int .i64 q.y.H, .int .u64 q.y.N, .int .i64 q.e, .int .i64 q.ek, .string q.offer] 47 (0, 0) : Obj) (by simp))
  obtain ⟨mf0, mf1, mf2, mf3, mf4, mf5, mf6, mf7, mf8, mf9, mf10, mf11, mf12⟩ := cell13s (HC.out.kept (w2.heap.size) (.cells #[.int .i64 (m.i 0), .int .u64 (m.i 1), .int .u64 (m.i 2), .string m.s, .int .i64 (m.i 4), .int .i64 (m.i 5), .int .i64 (m.i 6), .int .i64 (m.i 7), .int .i64 (m.i 8), .int .i64 (m.i 9), .int .i64 (m.i 10), .int .u64 (m.i 11), .int .u64 (m.i 12)] 25 (0, 0) : Obj) (by simp))
  go_wp2_with fail
  clear mef0 mef1 mef2 mef3 qf0 qf1 qf2 qf3 qf4 qf5 qf6 mf0 mf1 mf2 mf3 mf4 mf5 mf6 mf7 mf8 mf9 mf10 mf11 mf12
  refine (HC.out.hfinish gN (x := 1) (y := 2) (p := q) (m := m) k1 S.out.qy ⟨by rw [S.out.qe]; exact i64_small (by omega) (by omega), by rw [S.out.qk]; exact i64_small (by omega) (by omega)⟩ S.out.mw S.out.c8).mono ?_
  rintro e w9 ⟨rfl, h⟩
  replace HC := Lib.hid h
  clear h
  simp only [Ses.v, zeroSes]
  replace HC := Lib.hid (HC.out.boxB gP gN #[.int .i64 0, .int .i64 0, .int .i64 0, .int .i64 0] 75 (b := w9.heap.size) (by simp))
  obtain ⟨mef0, mef1, mef2, mef3⟩ := cell4s (HC.out.kept (w1.heap.size) (.cells #[.int .i64 1, .int .i64 2, .int .i64 3, .int .i64 4] 90 (0, 0) : Obj) (by simp))
  obtain ⟨qf0, qf1, qf2, qf3, qf4, qf5, qf6⟩ := cell7s (HC.out.kept (w2.heap.size + 1) (.cells #[.int .i64 q.y.CK, .int .i64 q.y.K, .int .i64 q.y.H, .int .u64 q.y.N, .int .i64 q.e, .int .i64 q.ek, .string q.offer] 47 (0, 0) : Obj) (by simp))
  obtain ⟨rf0, rf1, rf2, rf3, rf4, rf5, rf6, rf7, rf8, rf9, rf10, rf11, rf12⟩ := cell13s (HC.out.kept (w5.heap.size) (.cells #[.int .i64 (r.i 0), .int .u64 (r.i 1), .int .u64 (r.i 2), .string r.s, .int .i64 (r.i 4), .int .i64 (r.i 5), .int .i64 (r.i 6), .int .i64 (r.i 7), .int .i64 (r.i 8), .int .i64 (r.i 9), .int .i64 (r.i 10), .int .u64 (r.i 11), .int .u64 (r.i 12)] 25 (0, 0) : Obj) (by simp))
  go_wp2_with fail
  clear mef0 mef1 mef2 mef3 qf0 qf1 qf2 qf3 qf4 qf5 qf6 rf0 rf1 rf2 rf3 rf4 rf5 rf6 rf7 rf8 rf9 rf10 rf11 rf12
  refine (HC.out.hfinish gN (x := 3) (y := 4) (p := q) (m := r) k3 S.out.qy ⟨by rw [S.out.qe]; exact i64_small (by omega) (by omega), by rw [S.out.qk]; exact i64_small (by omega) (by omega)⟩ S.out.rw S.out.c9).mono ?_
  rintro e w10 ⟨rfl, h⟩
  replace HC := Lib.hid h
  clear h
  simp only [Ses.v, zeroSes]
  replace HC := Lib.hid (HC.out.boxB gP gN #[.int .i64 0, .int .i64 0, .int .i64 0, .int .i64 0] 75 (b := w10.heap.size) (by simp))
  obtain ⟨af0, af1, af2, af3⟩ := cell4s (HC.out.kept (w6.heap.size) (.cells #[.int .i64 u.h, .int .i64 u.recv, .int .i64 u.send, .int .i64 1] 75 (0, 0) : Obj) (by simp))
  obtain ⟨bf0, bf1, bf2, bf3⟩ := cell4s (HC.out.kept (w7.heap.size) (.cells #[.int .i64 u.h, .int .i64 u.recv, .int .i64 u.send, .int .i64 1] 75 (0, 0) : Obj) (by simp))
  obtain ⟨uf0, uf1, uf2, uf3⟩ := cell4s (HC.out.kept (w5.heap.size + 1) (.cells #[.int .i64 u.h, .int .i64 u.send, .int .i64 u.recv, .int .i64 u.version] 75 (0, 0) : Obj) (by simp))
  obtain ⟨cf0, cf1, cf2, cf3⟩ := cell4s (HC.out.kept (w8.heap.size) (.cells #[.int .i64 0, .int .i64 0, .int .i64 0, .int .i64 0] 75 (0, 0) : Obj) (by simp))
  go_wp2_with fail
  clear af0 af1 af2 af3 bf0 bf1 bf2 bf3 uf0 uf1 uf2 uf3 cf0 cf1 cf2 cf3
  refine (fixed_any _).mono ?_
  rintro e w' ⟨rfl, hb⟩
  go_wp2_with fail
  go_ret
  exact ⟨rfl, HC.out.low.trans (hb.mono HC.out.low.size)⟩
set_option maxHeartbeats 40000000 in
set_option maxRecDepth 200000 in
theorem walk1 (a1 : Int) (w : World) {n : Nat} (hn0 : Hid (n < 256)) (eN0 : Hid (IntKind.u64.wrap (n : Int) = (n : Int))) {m m2 r : Mg} {q v : Pnd} {y : Sy} {u : Ses} {f : Int} {L1 L2 L3 L4 L5 L6 L7 L8 : List Tm} (e1 : (wrap64 a1).tmod 3 = 1) (S : Hid (EndsIs n 12 8 14 m m2 r q v y u f L1 L2 L3 L4 L5 L6 L7 L8)) (hf : (f != 0) = true) : Calls Tryz.prog 11 #[.int .u8 (n : Int), .int .u8 a1] w fun e w' => e = .returned (.bool true) ∧ Below w.heap.size w w' := by
  have gN := NoS.good w.heap.size
  go_enter Tryz.func11, Tryz.ntmps11
  go_wp2_with fail
  refine (two_k w).mono ?_
  rintro e w1 ⟨g, rfl, h1⟩
  have gP := PSq.good w.heap.size g 5000
  have HC := Lib.hid h1
  clear h1
  replace HC := Lib.hid (HC.out.boxB gP gN #[.int .i64 1, .int .i64 2, .int .i64 3, .int .i64 4] 90 (b := w1.heap.size) (by simp))
  replace HC := Lib.hid (HC.out.boxB gP gN #[.int .i64 17, .int .i64 18, .int .i64 5, .int .i64 6, .int .i64 15, .int .i64 16, .int .i64 5, .int .i64 6] 91 (b := w1.heap.size + 1) (by simp))
  obtain ⟨mef0, mef1, mef2, mef3⟩ := cell4s (HC.out.kept (w1.heap.size) (.cells #[.int .i64 1, .int .i64 2, .int .i64 3, .int .i64 4] 90 (0, 0) : Obj) (by simp))
  obtain ⟨ppf0, ppf1, ppf2, ppf3, ppf4, ppf5, ppf6, ppf7⟩ := cell8s (HC.out.kept (w1.heap.size + 1) (.cells #[.int .i64 17, .int .i64 18, .int .i64 5, .int .i64 6, .int .i64 15, .int .i64 16, .int .i64 5, .int .i64 6] 91 (0, 0) : Obj) (by simp))
  go_wp2_with fail
  clear mef0 mef1 mef2 mef3 ppf0 ppf1 ppf2 ppf3 ppf4 ppf5 ppf6 ppf7
  have hn := hn0.out
  rw [eN0.out]
  refine (HC.out.hbegin gN (a1 := 1) (a2 := 2) (d0 := 7) (d1 := 8) (d2 := 9) (p := pB) (m0 := mIn ⟨#[2, 1]⟩ 0) (stamp := n) k1 k2 pB_wf (mIn_wf (by decide) (by omega) (by omega)) (by omega) (i64_small (by omega) (by omega)) (i64_small (by omega) (by omega)) (i64_small (by omega) (by omega)) S.out.c1).mono ?_
  rintro e w2 ⟨rfl, h⟩
  replace HC := Lib.hid h
  clear h hn
  simp only [Ms.Ms.v, Ms.Ms.cl, Pnd.v]
  replace HC := Lib.hid (HC.out.boxB gP gN #[.int .i64 (m.i 0), .int .u64 (m.i 1), .int .u64 (m.i 2), .string m.s, .int .i64 (m.i 4), .int .i64 (m.i 5), .int .i64 (m.i 6), .int .i64 (m.i 7), .int .i64 (m.i 8), .int .i64 (m.i 9), .int .i64 (m.i 10), .int .u64 (m.i 11), .int .u64 (m.i 12)] 25 (b := w2.heap.size) (by simp))
  replace HC := Lib.hid (HC.out.boxB gP gN #[.int .i64 q.y.CK, .int .i64 q.y.K, .int .i64 q.y.H, .int .u64 q.y.N, .int .i64 q.e, .int .i64 q.ek, .string q.offer] 47 (b := w2.heap.size + 1) (by simp))
  go_upto_region 7 with fail
  replace HC := Lib.hid (HC.out.boxB gP gN #[.int .i64 12, .int .i64 8, .int .i64 14] 50 (b := w2.heap.size + 1 + 1) (by simp))
  obtain ⟨mef0, mef1, mef2, mef3⟩ := cell4s (HC.out.kept (w1.heap.size) (.cells #[.int .i64 1, .int .i64 2, .int .i64 3, .int .i64 4] 90 (0, 0) : Obj) (by simp))
  obtain ⟨ppf0, ppf1, ppf2, ppf3, ppf4, ppf5, ppf6, ppf7⟩ := cell8s (HC.out.kept (w1.heap.size + 1) (.cells #[.int .i64 17, .int .i64 18, .int .i64 5, .int .i64 6, .int .i64 15, .int .i64 16, .int .i64 5, .int .i64 6] 91 (0, 0) : Obj) (by simp))
  obtain ⟨df0, df1, df2⟩ := cell3s (HC.out.kept (w2.heap.size + 1 + 1) (.cells #[.int .i64 12, .int .i64 8, .int .i64 14] 50 (0, 0) : Obj) (by simp))
  go_wp2_with fail
  clear mef0 mef1 mef2 mef3 ppf0 ppf1 ppf2 ppf3 ppf4 ppf5 ppf6 ppf7 df0 df1 df2
  have hn := hn0.out
  rw [eN0.out]
  refine (HC.out.hbegin gN (a1 := 1) (a2 := 2) (d0 := 12) (d1 := 8) (d2 := 14) (p := pB) (m0 := m8 ⟨#[2, 1]⟩) (stamp := n) k1 k2 pB_wf (m8_wf (by decide)) (by omega) (i64_small (by omega) (by omega)) (i64_small (by omega) (by omega)) (i64_small (by omega) (by omega)) S.out.c2).mono ?_
  rintro e w3 ⟨rfl, h⟩
  replace HC := Lib.hid h
  clear h hn
  simp only [Ms.Ms.v, Ms.Ms.cl, Pnd.v]
  replace HC := Lib.hid (HC.out.boxB gP gN #[.int .i64 (m2.i 0), .int .u64 (m2.i 1), .int .u64 (m2.i 2), .string m2.s, .int .i64 (m2.i 4), .int .i64 (m2.i 5), .int .i64 (m2.i 6), .int .i64 (m2.i 7), .int .i64 (m2.i 8), .int .i64 (m2.i 9), .int .i64 (m2.i 10), .int .u64 (m2.i 11), .int .u64 (m2.i 12)] 25 (b := w3.heap.size) (by simp))
  replace HC := Lib.hid (HC.out.boxB gP gN #[.int .i64 v.y.CK, .int .i64 v.y.K, .int .i64 v.y.H, .int .u64 v.y.N, .int .i64 v.e, .int .i64 v.ek, .string v.offer] 47 (b := w3.heap.size + 1) (by simp))
  obtain ⟨meg0, meg1, meg2, meg3⟩ := cell4s (HC.out.kept (w1.heap.size) (.cells #[.int .i64 1, .int .i64 2, .int .i64 3, .int .i64 4] 90 (0, 0) : Obj) (by simp))
  obtain ⟨ppg0, ppg1, ppg2, ppg3, ppg4, ppg5, ppg6, ppg7⟩ := cell8s (HC.out.kept (w1.heap.size + 1) (.cells #[.int .i64 17, .int .i64 18, .int .i64 5, .int .i64 6, .int .i64 15, .int .i64 16, .int .i64 5, .int .i64 6] 91 (0, 0) : Obj) (by simp))
  replace HC := Lib.hid (HC.out.boxB gP gN #[.int .i64 15, .int .i64 16, .int .i64 5, .int .i64 6] 43 (b := w3.heap.size + 1 + 1) (by simp))
  obtain ⟨mf0, mf1, mf2, mf3, mf4, mf5, mf6, mf7, mf8, mf9, mf10, mf11, mf12⟩ := cell13s (HC.out.kept (w2.heap.size) (.cells #[.int .i64 (m.i 0), .int .u64 (m.i 1), .int .u64 (m.i 2), .string m.s, .int .i64 (m.i 4), .int .i64 (m.i 5), .int .i64 (m.i 6), .int .i64 (m.i 7), .int .i64 (m.i 8), .int .i64 (m.i 9), .int .i64 (m.i 10), .int .u64 (m.i 11), .int .u64 (m.i 12)] 25 (0, 0) : Obj) (by simp))
  go_wp2_with fail
  clear meg0 meg1 meg2 meg3 ppg0 ppg1 ppg2 ppg3 ppg4 ppg5 ppg6 ppg7 mf0 mf1 mf2 mf3 mf4 mf5 mf6 mf7 mf8 mf9 mf10 mf11 mf12
  have HR : ∀ bs, ((w3.heap.size + 1 + 1, (.cells #[.int .i64 15, .int .i64 16, .int .i64 5, .int .i64 6] 43 (0, 0) : Obj)) : Nat × Obj) ∈ bs → RowB bs (some ⟨w3.heap.size + 1 + 1, 0, none⟩) [pA] := fun bs hm W hk => row_one (p := pA) (hk (w3.heap.size + 1 + 1) (.cells #[.int .i64 15, .int .i64 16, .int .i64 5, .int .i64 6] 43 (0, 0) : Obj) hm)
  refine (HC.out.hopen gN (x := 3) (y := 4) (ps := [pA]) (offer := ⟨#[1]⟩) k3 k4 (by rfl) (by decide) (HR _ (by simp)) (by simp; exact pA_wf) (by decide) S.out.mw S.out.c3).mono ?_
  rintro e w4 ⟨rfl, h⟩
  replace HC := Lib.hid h
  clear h HR
  simp only [Opd.v]
  replace HC := Lib.hid (HC.out.boxB gP gN #[.int .i64 y.CK, .int .i64 y.K, .int .i64 y.H, .int .u64 y.N, .int .i64 0, .int .i64 1, .int .u64 n, .int .i64 (m.i 6), .int .i64 (m.i 7), .int .i64 15] 64 (b := w4.heap.size) (by simp))
  obtain ⟨of0, of1, of2, of3, of4, of5, of6, of7, of8, of9⟩ := cell10s (HC.out.kept (w4.heap.size) (.cells #[.int .i64 y.CK, .int .i64 y.K, .int .i64 y.H, .int .u64 y.N, .int .i64 0, .int .i64 1, .int .u64 n, .int .i64 (m.i 6), .int .i64 (m.i 7), .int .i64 15] 64 (0, 0) : Obj) (by simp))
  go_wp2_with fail
  clear of0 of1 of2 of3 of4 of5 of6 of7 of8 of9
  refine (HC.out.hanswer gN (o := ⟨y, 0, 1, n, m.i 6, m.i 7, 15⟩) (fr := 9) (tt := 7) (d0 := 10) (d1 := 11) S.out.oy (u64_small (by omega) (by omega)) (u64_small (by omega) (by omega)) (i64_small (by omega) (by omega)) (i64_small (by omega) (by omega)) S.out.c4).mono ?_
  rintro e w5 ⟨rfl, h⟩
  replace HC := Lib.hid h
  clear h
  simp only [Ms.Ms.v, Ms.Ms.cl, Ses.v]
  replace HC := Lib.hid (HC.out.boxB gP gN #[.int .i64 (r.i 0), .int .u64 (r.i 1), .int .u64 (r.i 2), .string r.s, .int .i64 (r.i 4), .int .i64 (r.i 5), .int .i64 (r.i 6), .int .i64 (r.i 7), .int .i64 (r.i 8), .int .i64 (r.i 9), .int .i64 (r.i 10), .int .u64 (r.i 11), .int .u64 (r.i 12)] 25 (b := w5.heap.size) (by simp))
  replace HC := Lib.hid (HC.out.boxB gP gN #[.int .i64 u.h, .int .i64 u.send, .int .i64 u.recv, .int .i64 u.version] 75 (b := w5.heap.size + 1) (by simp))
  obtain ⟨mef0, mef1, mef2, mef3⟩ := cell4s (HC.out.kept (w1.heap.size) (.cells #[.int .i64 1, .int .i64 2, .int .i64 3, .int .i64 4] 90 (0, 0) : Obj) (by simp))
  obtain ⟨qf0, qf1, qf2, qf3, qf4, qf5, qf6⟩ := cell7s (HC.out.kept (w2.heap.size + 1) (.cells #[.int .i64 q.y.CK, .int .i64 q.y.K, .int .i64 q.y.H, .int .u64 q.y.N, .int .i64 q.e, .int .i64 q.ek, .string q.offer] 47 (0, 0) : Obj) (by simp))
  obtain ⟨rf0, rf1, rf2, rf3, rf4, rf5, rf6, rf7, rf8, rf9, rf10, rf11, rf12⟩ := cell13s (HC.out.kept (w5.heap.size) (.cells #[.int .i64 (r.i 0), .int .u64 (r.i 1), .int .u64 (r.i 2), .string r.s, .int .i64 (r.i 4), .int .i64 (r.i 5), .int .i64 (r.i 6), .int .i64 (r.i 7), .int .i64 (r.i 8), .int .i64 (r.i 9), .int .i64 (r.i 10), .int .u64 (r.i 11), .int .u64 (r.i 12)] 25 (0, 0) : Obj) (by simp))
  go_wp2_with fail
  clear mef0 mef1 mef2 mef3 qf0 qf1 qf2 qf3 qf4 qf5 qf6 rf0 rf1 rf2 rf3 rf4 rf5 rf6 rf7 rf8 rf9 rf10 rf11 rf12
  refine (HC.out.hfinish gN (x := 1) (y := 2) (p := q) (m := r) k1 S.out.qy ⟨by rw [S.out.qe]; exact i64_small (by omega) (by omega), by rw [S.out.qk]; exact i64_small (by omega) (by omega)⟩ S.out.rw S.out.c5).mono ?_
  rintro e w6 ⟨rfl, h⟩
  replace HC := Lib.hid h
  clear h
  simp only [Ses.v, zeroSes]
  replace HC := Lib.hid (HC.out.boxB gP gN #[.int .i64 u.h, .int .i64 u.recv, .int .i64 u.send, .int .i64 1] 75 (b := w6.heap.size) (by simp))
  obtain ⟨mef0, mef1, mef2, mef3⟩ := cell4s (HC.out.kept (w1.heap.size) (.cells #[.int .i64 1, .int .i64 2, .int .i64 3, .int .i64 4] 90 (0, 0) : Obj) (by simp))
  obtain ⟨qf0, qf1, qf2, qf3, qf4, qf5, qf6⟩ := cell7s (HC.out.kept (w2.heap.size + 1) (.cells #[.int .i64 q.y.CK, .int .i64 q.y.K, .int .i64 q.y.H, .int .u64 q.y.N, .int .i64 q.e, .int .i64 q.ek, .string q.offer] 47 (0, 0) : Obj) (by simp))
  obtain ⟨rf0, rf1, rf2, rf3, rf4, rf5, rf6, rf7, rf8, rf9, rf10, rf11, rf12⟩ := cell13s (HC.out.kept (w5.heap.size) (.cells #[.int .i64 (r.i 0), .int .u64 (r.i 1), .int .u64 (r.i 2), .string r.s, .int .i64 (r.i 4), .int .i64 (r.i 5), .int .i64 (r.i 6), .int .i64 (r.i 7), .int .i64 (r.i 8), .int .i64 (r.i 9), .int .i64 (r.i 10), .int .u64 (r.i 11), .int .u64 (r.i 12)] 25 (0, 0) : Obj) (by simp))
  go_wp2_with fail
  clear mef0 mef1 mef2 mef3 qf0 qf1 qf2 qf3 qf4 qf5 qf6 rf0 rf1 rf2 rf3 rf4 rf5 rf6 rf7 rf8 rf9 rf10 rf11 rf12
  refine (HC.out.hfinish gN (x := 1) (y := 2) (p := q) (m := r) k1 S.out.qy ⟨by rw [S.out.qe]; exact i64_small (by omega) (by omega), by rw [S.out.qk]; exact i64_small (by omega) (by omega)⟩ S.out.rw S.out.c6).mono ?_
  rintro e w7 ⟨rfl, h⟩
  replace HC := Lib.hid h
  clear h
  simp only [Ses.v, zeroSes]
  replace HC := Lib.hid (HC.out.boxB gP gN #[.int .i64 u.h, .int .i64 u.recv, .int .i64 u.send, .int .i64 1] 75 (b := w7.heap.size) (by simp))
  obtain ⟨mef0, mef1, mef2, mef3⟩ := cell4s (HC.out.kept (w1.heap.size) (.cells #[.int .i64 1, .int .i64 2, .int .i64 3, .int .i64 4] 90 (0, 0) : Obj) (by simp))
  obtain ⟨vf0, vf1, vf2, vf3, vf4, vf5, vf6⟩ := cell7s (HC.out.kept (w3.heap.size + 1) (.cells #[.int .i64 v.y.CK, .int .i64 v.y.K, .int .i64 v.y.H, .int .u64 v.y.N, .int .i64 v.e, .int .i64 v.ek, .string v.offer] 47 (0, 0) : Obj) (by simp))
  obtain ⟨rf0, rf1, rf2, rf3, rf4, rf5, rf6, rf7, rf8, rf9, rf10, rf11, rf12⟩ := cell13s (HC.out.kept (w5.heap.size) (.cells #[.int .i64 (r.i 0), .int .u64 (r.i 1), .int .u64 (r.i 2), .string r.s, .int .i64 (r.i 4), .int .i64 (r.i 5), .int .i64 (r.i 6), .int .i64 (r.i 7), .int .i64 (r.i 8), .int .i64 (r.i 9), .int .i64 (r.i 10), .int .u64 (r.i 11), .int .u64 (r.i 12)] 25 (0, 0) : Obj) (by simp))
  go_wp2_with fail
  clear mef0 mef1 mef2 mef3 vf0 vf1 vf2 vf3 vf4 vf5 vf6 rf0 rf1 rf2 rf3 rf4 rf5 rf6 rf7 rf8 rf9 rf10 rf11 rf12
  refine (HC.out.hfinish gN (x := 1) (y := 2) (p := v) (m := r) k1 S.out.vy ⟨by rw [S.out.ve]; exact i64_small (by omega) (by omega), by rw [S.out.vk]; exact i64_small (by omega) (by omega)⟩ S.out.rw S.out.c7).mono ?_
  rintro e w8 ⟨rfl, h⟩
  replace HC := Lib.hid h
  clear h
  simp only [Ses.v, zeroSes]
  replace HC := Lib.hid (HC.out.boxB gP gN #[.int .i64 0, .int .i64 0, .int .i64 0, .int .i64 0] 75 (b := w8.heap.size) (by simp))
  obtain ⟨mef0, mef1, mef2, mef3⟩ := cell4s (HC.out.kept (w1.heap.size) (.cells #[.int .i64 1, .int .i64 2, .int .i64 3, .int .i64 4] 90 (0, 0) : Obj) (by simp))
  obtain ⟨qf0, qf1, qf2, qf3, qf4, qf5, qf6⟩ := cell7s (HC.out.kept (w2.heap.size + 1) (.cells #[.int .i64 q.y.CK, .int .i64 q.y.K, .int .i64 q.y.H, .int .u64 q.y.N, .int .i64 q.e, .int .i64 q.ek, .string q.offer] 47 (0, 0) : Obj) (by simp))
  obtain ⟨mf0, mf1, mf2, mf3, mf4, mf5, mf6, mf7, mf8, mf9, mf10, mf11, mf12⟩ := cell13s (HC.out.kept (w2.heap.size) (.cells #[.int .i64 (m.i 0), .int .u64 (m.i 1), .int .u64 (m.i 2), .string m.s, .int .i64 (m.i 4), .int .i64 (m.i 5), .int .i64 (m.i 6), .int .i64 (m.i 7), .int .i64 (m.i 8), .int .i64 (m.i 9), .int .i64 (m.i 10), .int .u64 (m.i 11), .int .u64 (m.i 12)] 25 (0, 0) : Obj) (by simp))
  go_wp2_with fail
  clear mef0 mef1 mef2 mef3 qf0 qf1 qf2 qf3 qf4 qf5 qf6 mf0 mf1 mf2 mf3 mf4 mf5 mf6 mf7 mf8 mf9 mf10 mf11 mf12
  refine (HC.out.hfinish gN (x := 1) (y := 2) (p := q) (m := m) k1 S.out.qy ⟨by rw [S.out.qe]; exact i64_small (by omega) (by omega), by rw [S.out.qk]; exact i64_small (by omega) (by omega)⟩ S.out.mw S.out.c8).mono ?_
  rintro e w9 ⟨rfl, h⟩
  replace HC := Lib.hid h
  clear h
  simp only [Ses.v, zeroSes]
  replace HC := Lib.hid (HC.out.boxB gP gN #[.int .i64 0, .int .i64 0, .int .i64 0, .int .i64 0] 75 (b := w9.heap.size) (by simp))
  obtain ⟨mef0, mef1, mef2, mef3⟩ := cell4s (HC.out.kept (w1.heap.size) (.cells #[.int .i64 1, .int .i64 2, .int .i64 3, .int .i64 4] 90 (0, 0) : Obj) (by simp))
  obtain ⟨qf0, qf1, qf2, qf3, qf4, qf5, qf6⟩ := cell7s (HC.out.kept (w2.heap.size + 1) (.cells #[.int .i64 q.y.CK, .int .i64 q.y.K, .int .i64 q.y.H, .int .u64 q.y.N, .int .i64 q.e, .int .i64 q.ek, .string q.offer] 47 (0, 0) : Obj) (by simp))
  obtain ⟨rf0, rf1, rf2, rf3, rf4, rf5, rf6, rf7, rf8, rf9, rf10, rf11, rf12⟩ := cell13s (HC.out.kept (w5.heap.size) (.cells #[.int .i64 (r.i 0), .int .u64 (r.i 1), .int .u64 (r.i 2), .string r.s, .int .i64 (r.i 4), .int .i64 (r.i 5), .int .i64 (r.i 6), .int .i64 (r.i 7), .int .i64 (r.i 8), .int .i64 (r.i 9), .int .i64 (r.i 10), .int .u64 (r.i 11), .int .u64 (r.i 12)] 25 (0, 0) : Obj) (by simp))
  go_wp2_with fail
  clear mef0 mef1 mef2 mef3 qf0 qf1 qf2 qf3 qf4 qf5 qf6 rf0 rf1 rf2 rf3 rf4 rf5 rf6 rf7 rf8 rf9 rf10 rf11 rf12
  refine (HC.out.hfinish gN (x := 3) (y := 4) (p := q) (m := r) k3 S.out.qy ⟨by rw [S.out.qe]; exact i64_small (by omega) (by omega), by rw [S.out.qk]; exact i64_small (by omega) (by omega)⟩ S.out.rw S.out.c9).mono ?_
  rintro e w10 ⟨rfl, h⟩
  replace HC := Lib.hid h
  clear h
  simp only [Ses.v, zeroSes]
  replace HC := Lib.hid (HC.out.boxB gP gN #[.int .i64 0, .int .i64 0, .int .i64 0, .int .i64 0] 75 (b := w10.heap.size) (by simp))
  obtain ⟨af0, af1, af2, af3⟩ := cell4s (HC.out.kept (w6.heap.size) (.cells #[.int .i64 u.h, .int .i64 u.recv, .int .i64 u.send, .int .i64 1] 75 (0, 0) : Obj) (by simp))
  obtain ⟨bf0, bf1, bf2, bf3⟩ := cell4s (HC.out.kept (w7.heap.size) (.cells #[.int .i64 u.h, .int .i64 u.recv, .int .i64 u.send, .int .i64 1] 75 (0, 0) : Obj) (by simp))
  obtain ⟨uf0, uf1, uf2, uf3⟩ := cell4s (HC.out.kept (w5.heap.size + 1) (.cells #[.int .i64 u.h, .int .i64 u.send, .int .i64 u.recv, .int .i64 u.version] 75 (0, 0) : Obj) (by simp))
  obtain ⟨cf0, cf1, cf2, cf3⟩ := cell4s (HC.out.kept (w8.heap.size) (.cells #[.int .i64 0, .int .i64 0, .int .i64 0, .int .i64 0] 75 (0, 0) : Obj) (by simp))
  go_wp2_with fail
  clear af0 af1 af2 af3 bf0 bf1 bf2 bf3 uf0 uf1 uf2 uf3 cf0 cf1 cf2 cf3
  refine (fixed_any _).mono ?_
  rintro e w' ⟨rfl, hb⟩
  go_wp2_with fail
  go_ret
  exact ⟨rfl, HC.out.low.trans (hb.mono HC.out.low.size)⟩
set_option maxHeartbeats 40000000 in
set_option maxRecDepth 200000 in
theorem walk2 (a1 : Int) (w : World) {n : Nat} (hn0 : Hid (n < 256)) (eN0 : Hid (IntKind.u64.wrap (n : Int) = (n : Int))) {m m2 r : Mg} {q v : Pnd} {y : Sy} {u : Ses} {f : Int} {L1 L2 L3 L4 L5 L6 L7 L8 : List Tm} (e1 : (wrap64 a1).tmod 3 = 2) (S : Hid (EndsIs n 12 13 9 m m2 r q v y u f L1 L2 L3 L4 L5 L6 L7 L8)) (hf : (f != 0) = true) : Calls Tryz.prog 11 #[.int .u8 (n : Int), .int .u8 a1] w fun e w' => e = .returned (.bool true) ∧ Below w.heap.size w w' := by
  have gN := NoS.good w.heap.size
  go_enter Tryz.func11, Tryz.ntmps11
  go_wp2_with fail
  refine (two_k w).mono ?_
  rintro e w1 ⟨g, rfl, h1⟩
  have gP := PSq.good w.heap.size g 5000
  have HC := Lib.hid h1
  clear h1
  replace HC := Lib.hid (HC.out.boxB gP gN #[.int .i64 1, .int .i64 2, .int .i64 3, .int .i64 4] 90 (b := w1.heap.size) (by simp))
  replace HC := Lib.hid (HC.out.boxB gP gN #[.int .i64 17, .int .i64 18, .int .i64 5, .int .i64 6, .int .i64 15, .int .i64 16, .int .i64 5, .int .i64 6] 91 (b := w1.heap.size + 1) (by simp))
  obtain ⟨mef0, mef1, mef2, mef3⟩ := cell4s (HC.out.kept (w1.heap.size) (.cells #[.int .i64 1, .int .i64 2, .int .i64 3, .int .i64 4] 90 (0, 0) : Obj) (by simp))
  obtain ⟨ppf0, ppf1, ppf2, ppf3, ppf4, ppf5, ppf6, ppf7⟩ := cell8s (HC.out.kept (w1.heap.size + 1) (.cells #[.int .i64 17, .int .i64 18, .int .i64 5, .int .i64 6, .int .i64 15, .int .i64 16, .int .i64 5, .int .i64 6] 91 (0, 0) : Obj) (by simp))
  go_wp2_with fail
  clear mef0 mef1 mef2 mef3 ppf0 ppf1 ppf2 ppf3 ppf4 ppf5 ppf6 ppf7
  have hn := hn0.out
  rw [eN0.out]
  refine (HC.out.hbegin gN (a1 := 1) (a2 := 2) (d0 := 7) (d1 := 8) (d2 := 9) (p := pB) (m0 := mIn ⟨#[2, 1]⟩ 0) (stamp := n) k1 k2 pB_wf (mIn_wf (by decide) (by omega) (by omega)) (by omega) (i64_small (by omega) (by omega)) (i64_small (by omega) (by omega)) (i64_small (by omega) (by omega)) S.out.c1).mono ?_
  rintro e w2 ⟨rfl, h⟩
  replace HC := Lib.hid h
  clear h hn
  simp only [Ms.Ms.v, Ms.Ms.cl, Pnd.v]
  replace HC := Lib.hid (HC.out.boxB gP gN #[.int .i64 (m.i 0), .int .u64 (m.i 1), .int .u64 (m.i 2), .string m.s, .int .i64 (m.i 4), .int .i64 (m.i 5), .int .i64 (m.i 6), .int .i64 (m.i 7), .int .i64 (m.i 8), .int .i64 (m.i 9), .int .i64 (m.i 10), .int .u64 (m.i 11), .int .u64 (m.i 12)] 25 (b := w2.heap.size) (by simp))
  replace HC := Lib.hid (HC.out.boxB gP gN #[.int .i64 q.y.CK, .int .i64 q.y.K, .int .i64 q.y.H, .int .u64 q.y.N, .int .i64 q.e, .int .i64 q.ek, .string q.offer] 47 (b := w2.heap.size + 1) (by simp))
  go_upto_region 7 with fail
  replace HC := Lib.hid (HC.out.boxB gP gN #[.int .i64 12, .int .i64 13, .int .i64 9] 50 (b := w2.heap.size + 1 + 1) (by simp))
  obtain ⟨mef0, mef1, mef2, mef3⟩ := cell4s (HC.out.kept (w1.heap.size) (.cells #[.int .i64 1, .int .i64 2, .int .i64 3, .int .i64 4] 90 (0, 0) : Obj) (by simp))
  obtain ⟨ppf0, ppf1, ppf2, ppf3, ppf4, ppf5, ppf6, ppf7⟩ := cell8s (HC.out.kept (w1.heap.size + 1) (.cells #[.int .i64 17, .int .i64 18, .int .i64 5, .int .i64 6, .int .i64 15, .int .i64 16, .int .i64 5, .int .i64 6] 91 (0, 0) : Obj) (by simp))
  obtain ⟨df0, df1, df2⟩ := cell3s (HC.out.kept (w2.heap.size + 1 + 1) (.cells #[.int .i64 12, .int .i64 13, .int .i64 9] 50 (0, 0) : Obj) (by simp))
  go_wp2_with fail
  clear mef0 mef1 mef2 mef3 ppf0 ppf1 ppf2 ppf3 ppf4 ppf5 ppf6 ppf7 df0 df1 df2
  have hn := hn0.out
  rw [eN0.out]
  refine (HC.out.hbegin gN (a1 := 1) (a2 := 2) (d0 := 12) (d1 := 13) (d2 := 9) (p := pB) (m0 := m8 ⟨#[2, 1]⟩) (stamp := n) k1 k2 pB_wf (m8_wf (by decide)) (by omega) (i64_small (by omega) (by omega)) (i64_small (by omega) (by omega)) (i64_small (by omega) (by omega)) S.out.c2).mono ?_
  rintro e w3 ⟨rfl, h⟩
  replace HC := Lib.hid h
  clear h hn
  simp only [Ms.Ms.v, Ms.Ms.cl, Pnd.v]
  replace HC := Lib.hid (HC.out.boxB gP gN #[.int .i64 (m2.i 0), .int .u64 (m2.i 1), .int .u64 (m2.i 2), .string m2.s, .int .i64 (m2.i 4), .int .i64 (m2.i 5), .int .i64 (m2.i 6), .int .i64 (m2.i 7), .int .i64 (m2.i 8), .int .i64 (m2.i 9), .int .i64 (m2.i 10), .int .u64 (m2.i 11), .int .u64 (m2.i 12)] 25 (b := w3.heap.size) (by simp))
  replace HC := Lib.hid (HC.out.boxB gP gN #[.int .i64 v.y.CK, .int .i64 v.y.K, .int .i64 v.y.H, .int .u64 v.y.N, .int .i64 v.e, .int .i64 v.ek, .string v.offer] 47 (b := w3.heap.size + 1) (by simp))
  obtain ⟨meg0, meg1, meg2, meg3⟩ := cell4s (HC.out.kept (w1.heap.size) (.cells #[.int .i64 1, .int .i64 2, .int .i64 3, .int .i64 4] 90 (0, 0) : Obj) (by simp))
  obtain ⟨ppg0, ppg1, ppg2, ppg3, ppg4, ppg5, ppg6, ppg7⟩ := cell8s (HC.out.kept (w1.heap.size + 1) (.cells #[.int .i64 17, .int .i64 18, .int .i64 5, .int .i64 6, .int .i64 15, .int .i64 16, .int .i64 5, .int .i64 6] 91 (0, 0) : Obj) (by simp))
  replace HC := Lib.hid (HC.out.boxB gP gN #[.int .i64 15, .int .i64 16, .int .i64 5, .int .i64 6] 43 (b := w3.heap.size + 1 + 1) (by simp))
  obtain ⟨mf0, mf1, mf2, mf3, mf4, mf5, mf6, mf7, mf8, mf9, mf10, mf11, mf12⟩ := cell13s (HC.out.kept (w2.heap.size) (.cells #[.int .i64 (m.i 0), .int .u64 (m.i 1), .int .u64 (m.i 2), .string m.s, .int .i64 (m.i 4), .int .i64 (m.i 5), .int .i64 (m.i 6), .int .i64 (m.i 7), .int .i64 (m.i 8), .int .i64 (m.i 9), .int .i64 (m.i 10), .int .u64 (m.i 11), .int .u64 (m.i 12)] 25 (0, 0) : Obj) (by simp))
  go_wp2_with fail
  clear meg0 meg1 meg2 meg3 ppg0 ppg1 ppg2 ppg3 ppg4 ppg5 ppg6 ppg7 mf0 mf1 mf2 mf3 mf4 mf5 mf6 mf7 mf8 mf9 mf10 mf11 mf12
  have HR : ∀ bs, ((w3.heap.size + 1 + 1, (.cells #[.int .i64 15, .int .i64 16, .int .i64 5, .int .i64 6] 43 (0, 0) : Obj)) : Nat × Obj) ∈ bs → RowB bs (some ⟨w3.heap.size + 1 + 1, 0, none⟩) [pA] := fun bs hm W hk => row_one (p := pA) (hk (w3.heap.size + 1 + 1) (.cells #[.int .i64 15, .int .i64 16, .int .i64 5, .int .i64 6] 43 (0, 0) : Obj) hm)
  refine (HC.out.hopen gN (x := 3) (y := 4) (ps := [pA]) (offer := ⟨#[1]⟩) k3 k4 (by rfl) (by decide) (HR _ (by simp)) (by simp; exact pA_wf) (by decide) S.out.mw S.out.c3).mono ?_
  rintro e w4 ⟨rfl, h⟩
  replace HC := Lib.hid h
  clear h HR
  simp only [Opd.v]
  replace HC := Lib.hid (HC.out.boxB gP gN #[.int .i64 y.CK, .int .i64 y.K, .int .i64 y.H, .int .u64 y.N, .int .i64 0, .int .i64 1, .int .u64 n, .int .i64 (m.i 6), .int .i64 (m.i 7), .int .i64 15] 64 (b := w4.heap.size) (by simp))
  obtain ⟨of0, of1, of2, of3, of4, of5, of6, of7, of8, of9⟩ := cell10s (HC.out.kept (w4.heap.size) (.cells #[.int .i64 y.CK, .int .i64 y.K, .int .i64 y.H, .int .u64 y.N, .int .i64 0, .int .i64 1, .int .u64 n, .int .i64 (m.i 6), .int .i64 (m.i 7), .int .i64 15] 64 (0, 0) : Obj) (by simp))
  go_wp2_with fail
  clear of0 of1 of2 of3 of4 of5 of6 of7 of8 of9
  refine (HC.out.hanswer gN (o := ⟨y, 0, 1, n, m.i 6, m.i 7, 15⟩) (fr := 9) (tt := 7) (d0 := 10) (d1 := 11) S.out.oy (u64_small (by omega) (by omega)) (u64_small (by omega) (by omega)) (i64_small (by omega) (by omega)) (i64_small (by omega) (by omega)) S.out.c4).mono ?_
  rintro e w5 ⟨rfl, h⟩
  replace HC := Lib.hid h
  clear h
  simp only [Ms.Ms.v, Ms.Ms.cl, Ses.v]
  replace HC := Lib.hid (HC.out.boxB gP gN #[.int .i64 (r.i 0), .int .u64 (r.i 1), .int .u64 (r.i 2), .string r.s, .int .i64 (r.i 4), .int .i64 (r.i 5), .int .i64 (r.i 6), .int .i64 (r.i 7), .int .i64 (r.i 8), .int .i64 (r.i 9), .int .i64 (r.i 10), .int .u64 (r.i 11), .int .u64 (r.i 12)] 25 (b := w5.heap.size) (by simp))
  replace HC := Lib.hid (HC.out.boxB gP gN #[.int .i64 u.h, .int .i64 u.send, .int .i64 u.recv, .int .i64 u.version] 75 (b := w5.heap.size + 1) (by simp))
  obtain ⟨mef0, mef1, mef2, mef3⟩ := cell4s (HC.out.kept (w1.heap.size) (.cells #[.int .i64 1, .int .i64 2, .int .i64 3, .int .i64 4] 90 (0, 0) : Obj) (by simp))
  obtain ⟨qf0, qf1, qf2, qf3, qf4, qf5, qf6⟩ := cell7s (HC.out.kept (w2.heap.size + 1) (.cells #[.int .i64 q.y.CK, .int .i64 q.y.K, .int .i64 q.y.H, .int .u64 q.y.N, .int .i64 q.e, .int .i64 q.ek, .string q.offer] 47 (0, 0) : Obj) (by simp))
  obtain ⟨rf0, rf1, rf2, rf3, rf4, rf5, rf6, rf7, rf8, rf9, rf10, rf11, rf12⟩ := cell13s (HC.out.kept (w5.heap.size) (.cells #[.int .i64 (r.i 0), .int .u64 (r.i 1), .int .u64 (r.i 2), .string r.s, .int .i64 (r.i 4), .int .i64 (r.i 5), .int .i64 (r.i 6), .int .i64 (r.i 7), .int .i64 (r.i 8), .int .i64 (r.i 9), .int .i64 (r.i 10), .int .u64 (r.i 11), .int .u64 (r.i 12)] 25 (0, 0) : Obj) (by simp))
  go_wp2_with fail
  clear mef0 mef1 mef2 mef3 qf0 qf1 qf2 qf3 qf4 qf5 qf6 rf0 rf1 rf2 rf3 rf4 rf5 rf6 rf7 rf8 rf9 rf10 rf11 rf12
  refine (HC.out.hfinish gN (x := 1) (y := 2) (p := q) (m := r) k1 S.out.qy ⟨by rw [S.out.qe]; exact i64_small (by omega) (by omega), by rw [S.out.qk]; exact i64_small (by omega) (by omega)⟩ S.out.rw S.out.c5).mono ?_
  rintro e w6 ⟨rfl, h⟩
  replace HC := Lib.hid h
  clear h
  simp only [Ses.v, zeroSes]
  replace HC := Lib.hid (HC.out.boxB gP gN #[.int .i64 u.h, .int .i64 u.recv, .int .i64 u.send, .int .i64 1] 75 (b := w6.heap.size) (by simp))
  obtain ⟨mef0, mef1, mef2, mef3⟩ := cell4s (HC.out.kept (w1.heap.size) (.cells #[.int .i64 1, .int .i64 2, .int .i64 3, .int .i64 4] 90 (0, 0) : Obj) (by simp))
  obtain ⟨qf0, qf1, qf2, qf3, qf4, qf5, qf6⟩ := cell7s (HC.out.kept (w2.heap.size + 1) (.cells #[.int .i64 q.y.CK, .int .i64 q.y.K, .int .i64 q.y.H, .int .u64 q.y.N, .int .i64 q.e, .int .i64 q.ek, .string q.offer] 47 (0, 0) : Obj) (by simp))
  obtain ⟨rf0, rf1, rf2, rf3, rf4, rf5, rf6, rf7, rf8, rf9, rf10, rf11, rf12⟩ := cell13s (HC.out.kept (w5.heap.size) (.cells #[.int .i64 (r.i 0), .int .u64 (r.i 1), .int .u64 (r.i 2), .string r.s, .int .i64 (r.i 4), .int .i64 (r.i 5), .int .i64 (r.i 6), .int .i64 (r.i 7), .int .i64 (r.i 8), .int .i64 (r.i 9), .int .i64 (r.i 10), .int .u64 (r.i 11), .int .u64 (r.i 12)] 25 (0, 0) : Obj) (by simp))
  go_wp2_with fail
  clear mef0 mef1 mef2 mef3 qf0 qf1 qf2 qf3 qf4 qf5 qf6 rf0 rf1 rf2 rf3 rf4 rf5 rf6 rf7 rf8 rf9 rf10 rf11 rf12
  refine (HC.out.hfinish gN (x := 1) (y := 2) (p := q) (m := r) k1 S.out.qy ⟨by rw [S.out.qe]; exact i64_small (by omega) (by omega), by rw [S.out.qk]; exact i64_small (by omega) (by omega)⟩ S.out.rw S.out.c6).mono ?_
  rintro e w7 ⟨rfl, h⟩
  replace HC := Lib.hid h
  clear h
  simp only [Ses.v, zeroSes]
  replace HC := Lib.hid (HC.out.boxB gP gN #[.int .i64 u.h, .int .i64 u.recv, .int .i64 u.send, .int .i64 1] 75 (b := w7.heap.size) (by simp))
  obtain ⟨mef0, mef1, mef2, mef3⟩ := cell4s (HC.out.kept (w1.heap.size) (.cells #[.int .i64 1, .int .i64 2, .int .i64 3, .int .i64 4] 90 (0, 0) : Obj) (by simp))
  obtain ⟨vf0, vf1, vf2, vf3, vf4, vf5, vf6⟩ := cell7s (HC.out.kept (w3.heap.size + 1) (.cells #[.int .i64 v.y.CK, .int .i64 v.y.K, .int .i64 v.y.H, .int .u64 v.y.N, .int .i64 v.e, .int .i64 v.ek, .string v.offer] 47 (0, 0) : Obj) (by simp))
  obtain ⟨rf0, rf1, rf2, rf3, rf4, rf5, rf6, rf7, rf8, rf9, rf10, rf11, rf12⟩ := cell13s (HC.out.kept (w5.heap.size) (.cells #[.int .i64 (r.i 0), .int .u64 (r.i 1), .int .u64 (r.i 2), .string r.s, .int .i64 (r.i 4), .int .i64 (r.i 5), .int .i64 (r.i 6), .int .i64 (r.i 7), .int .i64 (r.i 8), .int .i64 (r.i 9), .int .i64 (r.i 10), .int .u64 (r.i 11), .int .u64 (r.i 12)] 25 (0, 0) : Obj) (by simp))
  go_wp2_with fail
  clear mef0 mef1 mef2 mef3 vf0 vf1 vf2 vf3 vf4 vf5 vf6 rf0 rf1 rf2 rf3 rf4 rf5 rf6 rf7 rf8 rf9 rf10 rf11 rf12
  refine (HC.out.hfinish gN (x := 1) (y := 2) (p := v) (m := r) k1 S.out.vy ⟨by rw [S.out.ve]; exact i64_small (by omega) (by omega), by rw [S.out.vk]; exact i64_small (by omega) (by omega)⟩ S.out.rw S.out.c7).mono ?_
  rintro e w8 ⟨rfl, h⟩
  replace HC := Lib.hid h
  clear h
  simp only [Ses.v, zeroSes]
  replace HC := Lib.hid (HC.out.boxB gP gN #[.int .i64 0, .int .i64 0, .int .i64 0, .int .i64 0] 75 (b := w8.heap.size) (by simp))
  obtain ⟨mef0, mef1, mef2, mef3⟩ := cell4s (HC.out.kept (w1.heap.size) (.cells #[.int .i64 1, .int .i64 2, .int .i64 3, .int .i64 4] 90 (0, 0) : Obj) (by simp))
  obtain ⟨qf0, qf1, qf2, qf3, qf4, qf5, qf6⟩ := cell7s (HC.out.kept (w2.heap.size + 1) (.cells #[.int .i64 q.y.CK, .int .i64 q.y.K, .int .i64 q.y.H, .int .u64 q.y.N, .int .i64 q.e, .int .i64 q.ek, .string q.offer] 47 (0, 0) : Obj) (by simp))
  obtain ⟨mf0, mf1, mf2, mf3, mf4, mf5, mf6, mf7, mf8, mf9, mf10, mf11, mf12⟩ := cell13s (HC.out.kept (w2.heap.size) (.cells #[.int .i64 (m.i 0), .int .u64 (m.i 1), .int .u64 (m.i 2), .string m.s, .int .i64 (m.i 4), .int .i64 (m.i 5), .int .i64 (m.i 6), .int .i64 (m.i 7), .int .i64 (m.i 8), .int .i64 (m.i 9), .int .i64 (m.i 10), .int .u64 (m.i 11), .int .u64 (m.i 12)] 25 (0, 0) : Obj) (by simp))
  go_wp2_with fail
  clear mef0 mef1 mef2 mef3 qf0 qf1 qf2 qf3 qf4 qf5 qf6 mf0 mf1 mf2 mf3 mf4 mf5 mf6 mf7 mf8 mf9 mf10 mf11 mf12
  refine (HC.out.hfinish gN (x := 1) (y := 2) (p := q) (m := m) k1 S.out.qy ⟨by rw [S.out.qe]; exact i64_small (by omega) (by omega), by rw [S.out.qk]; exact i64_small (by omega) (by omega)⟩ S.out.mw S.out.c8).mono ?_
  rintro e w9 ⟨rfl, h⟩
  replace HC := Lib.hid h
  clear h
  simp only [Ses.v, zeroSes]
  replace HC := Lib.hid (HC.out.boxB gP gN #[.int .i64 0, .int .i64 0, .int .i64 0, .int .i64 0] 75 (b := w9.heap.size) (by simp))
  obtain ⟨mef0, mef1, mef2, mef3⟩ := cell4s (HC.out.kept (w1.heap.size) (.cells #[.int .i64 1, .int .i64 2, .int .i64 3, .int .i64 4] 90 (0, 0) : Obj) (by simp))
  obtain ⟨qf0, qf1, qf2, qf3, qf4, qf5, qf6⟩ := cell7s (HC.out.kept (w2.heap.size + 1) (.cells #[.int .i64 q.y.CK, .int .i64 q.y.K, .int .i64 q.y.H, .int .u64 q.y.N, .int .i64 q.e, .int .i64 q.ek, .string q.offer] 47 (0, 0) : Obj) (by simp))
  obtain ⟨rf0, rf1, rf2, rf3, rf4, rf5, rf6, rf7, rf8, rf9, rf10, rf11, rf12⟩ := cell13s (HC.out.kept (w5.heap.size) (.cells #[.int .i64 (r.i 0), .int .u64 (r.i 1), .int .u64 (r.i 2), .string r.s, .int .i64 (r.i 4), .int .i64 (r.i 5), .int .i64 (r.i 6), .int .i64 (r.i 7), .int .i64 (r.i 8), .int .i64 (r.i 9), .int .i64 (r.i 10), .int .u64 (r.i 11), .int .u64 (r.i 12)] 25 (0, 0) : Obj) (by simp))
  go_wp2_with fail
  clear mef0 mef1 mef2 mef3 qf0 qf1 qf2 qf3 qf4 qf5 qf6 rf0 rf1 rf2 rf3 rf4 rf5 rf6 rf7 rf8 rf9 rf10 rf11 rf12
  refine (HC.out.hfinish gN (x := 3) (y := 4) (p := q) (m := r) k3 S.out.qy ⟨by rw [S.out.qe]; exact i64_small (by omega) (by omega), by rw [S.out.qk]; exact i64_small (by omega) (by omega)⟩ S.out.rw S.out.c9).mono ?_
  rintro e w10 ⟨rfl, h⟩
  replace HC := Lib.hid h
  clear h
  simp only [Ses.v, zeroSes]
  replace HC := Lib.hid (HC.out.boxB gP gN #[.int .i64 0, .int .i64 0, .int .i64 0, .int .i64 0] 75 (b := w10.heap.size) (by simp))
  obtain ⟨af0, af1, af2, af3⟩ := cell4s (HC.out.kept (w6.heap.size) (.cells #[.int .i64 u.h, .int .i64 u.recv, .int .i64 u.send, .int .i64 1] 75 (0, 0) : Obj) (by simp))
  obtain ⟨bf0, bf1, bf2, bf3⟩ := cell4s (HC.out.kept (w7.heap.size) (.cells #[.int .i64 u.h, .int .i64 u.recv, .int .i64 u.send, .int .i64 1] 75 (0, 0) : Obj) (by simp))
  obtain ⟨uf0, uf1, uf2, uf3⟩ := cell4s (HC.out.kept (w5.heap.size + 1) (.cells #[.int .i64 u.h, .int .i64 u.send, .int .i64 u.recv, .int .i64 u.version] 75 (0, 0) : Obj) (by simp))
  obtain ⟨cf0, cf1, cf2, cf3⟩ := cell4s (HC.out.kept (w8.heap.size) (.cells #[.int .i64 0, .int .i64 0, .int .i64 0, .int .i64 0] 75 (0, 0) : Obj) (by simp))
  go_wp2_with fail
  clear af0 af1 af2 af3 bf0 bf1 bf2 bf3 uf0 uf1 uf2 uf3 cf0 cf1 cf2 cf3
  refine (fixed_any _).mono ?_
  rintro e w' ⟨rfl, hb⟩
  go_wp2_with fail
  go_ret
  exact ⟨rfl, HC.out.low.trans (hb.mono HC.out.low.size)⟩
theorem walk (a0 a1 : Int) (w : World) (w0 : (Lit.int .u8 a0).wf = true) (w1 : (Lit.int .u8 a1).wf = true) : Calls Tryz.prog 11 #[.int .u8 a0, .int .u8 a1] w fun e w' => e = .returned (.bool true) ∧ Below w.heap.size w w' := by
  have b0 := byte_in w0
  have b1 := byte_in w1
  obtain ⟨n, rfl⟩ : ∃ n : Nat, a0 = (n : Int) := ⟨a0.toNat, by omega⟩
  have hn : n < 256 := by omega
  have eN : IntKind.u64.wrap (n : Int) = (n : Int) := wrap_u64 (by omega) (by omega)
  have m1 : (wrap64 a1).tmod 3 = 0 ∨ (wrap64 a1).tmod 3 = 1 ∨ (wrap64 a1).tmod 3 = 2 := by rw [show wrap64 a1 = a1 by unfold wrap64; omega, Int.tmod_eq_emod_of_nonneg (by omega)]; omega
  rcases m1 with e1 | e1 | e1
  · obtain ⟨m, m2, r, q, v, y, u, f, L1, L2, L3, L4, L5, L6, L7, L8, S⟩ := ends0 hn
    exact walk0 a1 w (Lib.hid hn) (Lib.hid eN) e1 (Lib.hid S) (by have := S.f0; simpa using this)
  · obtain ⟨m, m2, r, q, v, y, u, f, L1, L2, L3, L4, L5, L6, L7, L8, S⟩ := ends1 hn
    exact walk1 a1 w (Lib.hid hn) (Lib.hid eN) e1 (Lib.hid S) (by have := S.f0; simpa using this)
  · obtain ⟨m, m2, r, q, v, y, u, f, L1, L2, L3, L4, L5, L6, L7, L8, S⟩ := ends2 hn
    exact walk2 a1 w (Lib.hid hn) (Lib.hid eN) e1 (Lib.hid S) (by have := S.f0; simpa using this)
set_option maxRecDepth 100000 in
theorem lifted (os : Os) (started : os.Started) (H : Type) (enc : TypeId × Value → H) :
    ReturnsInHanded {} Tryz.checked os 11 .any (fun w args => (Rows.handEndsSpec.pre enc Tryz.prog Tryz.f11 [] false w args ∧ laidMetH Tryz.prog laidX w) ∧ sizedMet enc Tryz.prog Tryz.f11 (OpenSpec.ofChange Rows.handEndsSpec) false w args) (Rows.handEndsSpec.post enc Tryz.prog Tryz.f11 false true false false) := by
  refine returnsInHanded_of_change_and (C := Tryz.checked) (X := fun w _ => laidMetH Tryz.prog laidX w) (fun _ _ _ hh h => h.of_heap hh) own started (by kernel_rfl) Tryz.func11
    (ChangeSpec.witness_shaped (enc := enc) (C := Tryz.checked) (os := os) (X := fun w _ => laidMetH Tryz.prog laidX w) false (World.doorLaid Tryz.prog 400 os) #[.int .u8 0, .int .u8 0] 8 rfl (World.shaped_of_RefB (by kernel_rfl) (by kernel_rfl)) (by kernel_rfl) (by kernel_rfl) (by kernel_rfl) (door_met os _)) ?_
  intro W base args ds gs before hval0 hW hcnd _ _ _
  have hval : ∀ (j : Nat) t v, Tryz.f11.params[j]? = some t → args[j]? = some v → Value.okWide Tryz.prog W .any base t v := hval0
  have hW' := hW
  obtain ⟨p, q, hA0, hV, rfl, hfz, hnd⟩ := hW
  have hA : DataW.TrodAll enc Tryz.prog W 0 (fun _ => true) true Tryz.f11.params.toList args.toList ds p := hA0
  rw [Tryz.params11] at hA hval
  obtain ⟨v0, vs0, d0, ds0, p0, q0, hargs, rfl, rfl, h0, r0⟩ := trodAll_cons hA
  obtain ⟨v1, vs1, d1, ds1, p1, q1, rfl, rfl, rfl, h1, r1⟩ := trodAll_cons r0
  obtain ⟨rfl, rfl, rfl⟩ := trodAll_nil r1
  obtain rfl : args = #[v0, v1] := by cases args; simp_all
  obtain ⟨rfl, rfl⟩ := trodVars_none hV
  obtain ⟨a0, rfl, rfl, rfl, w0⟩ := open_int Tryz.underlying5 (hval 0 5 v0 rfl rfl) h0
  obtain ⟨a1, rfl, rfl, rfl, w1⟩ := open_int Tryz.underlying5 (hval 1 5 v1 rfl rfl) h1
  clear hA0 hval0
  refine (walk a0 a1 W w0 w1).mono fun e W' ⟨he, bel⟩ => ?_
  subst he
  exact ⟨_, rfl, _, _, _, [], _, [], hW', trodAll_mk1 (shut_bool Tryz.underlying4 _), (trodAll_cons_mk (shut_int Tryz.underlying5 w0) (trodAll_cons_mk (shut_int Tryz.underlying5 w1) trodAll_mk0)), rfl, bel.frame _, fun h => by cases h⟩

theorem over : Rows.handEndsRow.holds Tryz.pinned (OpenSpec.ofChange Rows.handEndsSpec) :=
  OpenClaim.holds_of_wide 11 Tryz.f11 rfl rfl rfl rfl rfl rfl rfl ⟨rfl, rfl, rfl, rfl, rfl⟩ rfl rfl rfl rfl rfl (by kernel_rfl) Tryz.func11 (by kernel_rfl)
    (of_decide_eq_true (by kernel_rfl)) (by unfold Func.isWrapper; first | (rw [if_pos (by decide +kernel)]; kernel_rfl) | (rw [if_neg (by decide +kernel)]; exact ⟨rfl, rfl⟩))
    (fun os started H enc _ => lifted os started H enc)

theorem proved : Rows.HandEndsCardSaid :=
  Claim7.holds_tied_plain_at .later [] [.data, .data, .data] true (true, "214d8958b74491cbef1c0d449ff4d349e3047b1a9571b3ced18372bfe132fcea") true
    over (fun _ h => by cases h) (by kernel_rfl) (fun _ h => by cases h) handEnds_row_tie rfl ⟨rfl, rfl⟩ (by kernel_rfl) rfl
    (fun f fn hf hfn => by
      obtain rfl : f = 11 := Option.some.inj ((show Tryz.prog.funcNamed "sough/soughlaw17.HandEnds" = some 11 by kernel_rfl).symm.trans hf) |>.symm
      obtain rfl : fn = Tryz.f11 := (Option.some.inj (Tryz.func11.symm.trans hfn)).symm
      exact ⟨by kernel_rfl, fun j t ht => by
        rw [Tryz.params11] at ht
        have hm : t ∈ [5, 5] := by simpa using Array.mem_of_getElem? ht
        have hall : ([5, 5].all fun u => !Tryz.prog.wantsStandIn u) = true := by kernel_rfl
        exact (show Tryz.prog.wantsStandIn t = false by simpa using List.all_eq_true.1 hall t hm)⟩)
    (by kernel_rfl)
#print axioms proved
end Go.Proofs.YtgeonppckeiceaaGreatDoor.handEnds
