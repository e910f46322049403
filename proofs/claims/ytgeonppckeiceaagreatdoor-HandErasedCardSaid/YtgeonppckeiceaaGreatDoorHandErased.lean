/- Who hears a handshake, and knows later all long secrets, can make its keys just if both kinds of secrets are broken, for every input. -/
import Derived.Test.YtgeonppckeiceaaGreatDoorGq01
import Derived.Test.YtgeonppckeiceaaGreatDoorCards
import Derived.Test.YtgeonppckeiceaaGreatDoorTie
import Derived.Test.YtgeonppckeiceaaGreatDoorGq41
import Derived.Deep.RegionHeld3
import Derived.WalkKit
import Derived.ProofKit
import Derived.OpenShut
import Derived.ShutString
import Derived.ChangeOld
import Derived.Below
import Derived.LaidMore
import Derived.Stop.Joined
import Derived.SevenTiedAt
namespace Go.Proofs.YtgeonppckeiceaaGreatDoor.handErased
open Go.ChangeShapes Go.WideShapes Go.ChangeAt Go.RowKit
open Go.ChangeMaps (open_string shut_string)
open Go.Proofs.YtgeonppckeiceaaGreatDoor
set_option linter.unusedVariables false
set_option linter.unusedSimpArgs false
theorem own : ownKnob Tryz.prog.godebug = none := by kernel_rfl
abbrev laidX {H : Type} : List (String × DataW H) := [("math/bits.deBruijn32tab", Rows.laid_math_bits_deBruijn32tab), ("math/bits.deBruijn64tab", Rows.laid_math_bits_deBruijn64tab), ("internal/strconv.uint64pow10", Rows.laid_internal_strconv_uint64pow10)]
theorem door_met (os : Os) (args : Array Value) : laidMetH Tryz.prog laidX ((World.doorLaid Tryz.prog 400 os).forCall (fun _ _ => 0) ⟨#[], args, []⟩).memory :=
 laidMetH_of_parts3 (fuel := 8) (laidMet_of_run' 8 (by kernel_rfl) (by kernel_rfl)) (by kernel_rfl) (by kernel_rfl)
set_option maxHeartbeats 40000000 in
set_option maxRecDepth 200000 in
theorem walkW (a0 : Int) (w : World) {n : Nat} {sl : Int} {m r : Mg} {q : Pnd} {y : Sy} {u : Ses} {L1 L2 L3 L4 : List Tm} (hN : Hid (n < 256)) (hS : Hid (0 ≤ sl ∧ sl ≤ 1)) (eN : Hid (IntKind.u64.wrap (n : Int) = (n : Int))) (eS : Hid ((wrap64 a0).tmod 2 = sl)) (S : Hid (WhoIs sl n m q y r u L1 L2 L3 L4)) {dh kem : Bool} (eD : (bits BinOp.and IntKind.u8 (n : Int) 1 == 1) = dh) (eK : (bits BinOp.and IntKind.u8 (n : Int) 2 == 2) = kem) : Calls Tryz.prog 7 #[.int .u8 a0, .int .u8 (n : Int)] w fun e w' => e = .returned (.bool true) ∧ Below w.heap.size w w' := by
 have gN := NoS.good w.heap.size
 go_enter Tryz.func7, Tryz.ntmps7
 go_wp2_with fail
 refine (two_k w).mono ?_
 rintro e w1 ⟨g, rfl, h1⟩
 have gP := PSq.good w.heap.size g 5000
 have HC := Lib.hid h1
 clear h1
 replace HC := Lib.hid (HC.out.boxB gP gN #[.int .i64 1, .int .i64 2, .int .i64 3, .int .i64 4] 90 (b := w1.heap.size) (by simp))
 replace HC := Lib.hid (HC.out.boxB gP gN #[.int .i64 17, .int .i64 18, .int .i64 5, .int .i64 6, .int .i64 15, .int .i64 16, .int .i64 5, .int .i64 6] 91 (b := w1.heap.size + 1) (by simp))
 obtain ⟨mef0, mef1, mef2, mef3⟩ := cell4s (HC.out.kept (w1.heap.size) (.cells #[.int .i64 1, .int .i64 2, .int .i64 3, .int .i64 4] 90 (0, 0) : Obj) (by simp))
 obtain ⟨ppf0, ppf1, ppf2, ppf3, ppf4, ppf5, ppf6, ppf7⟩ := cell8s (HC.out.kept (w1.heap.size + 1) (.cells #[.int .i64 17, .int .i64 18, .int .i64 5, .int .i64 6, .int .i64 15, .int .i64 16, .int .i64 5, .int .i64 6] 91 (0, 0) : Obj) (by simp))
 go_wp2_with fail
 clear mef0 mef1 mef2 mef3 ppf0 ppf1 ppf2 ppf3 ppf4 ppf5 ppf6 ppf7
 rw [eN.out, eS.out]
 have hn := hN.out
 have hs := hS.out
 refine (HC.out.hbegin gN (a1 := 1) (a2 := 2) (d0 := 7) (d1 := 8) (d2 := 9) (p := pB) (m0 := mIn ⟨#[1]⟩ sl) (stamp := n) k1 k2 pB_wf (mIn_wf (by decide) (by omega) (by omega)) (by omega) k7 k8 k9 S.out.c1).mono ?_
 rintro e w2 ⟨rfl, h⟩
 replace HC := Lib.hid h
 clear h hn hs
 simp only [Ms.Ms.v, Ms.Ms.cl, Pnd.v]
 replace HC := Lib.hid (HC.out.boxB gP gN #[.int .i64 (m.i 0), .int .u64 (m.i 1), .int .u64 (m.i 2), .string m.s, .int .i64 (m.i 4), .int .i64 (m.i 5), .int .i64 (m.i 6), .int .i64 (m.i 7), .int .i64 (m.i 8), .int .i64 (m.i 9), .int .i64 (m.i 10), .int .u64 (m.i 11), .int .u64 (m.i 12)] 25 (b := w2.heap.size) (by simp))
 replace HC := Lib.hid (HC.out.boxB gP gN #[.int .i64 q.y.CK, .int .i64 q.y.K, .int .i64 q.y.H, .int .u64 q.y.N, .int .i64 q.e, .int .i64 q.ek, .string q.offer] 47 (b := w2.heap.size + 1) (by simp))
 obtain ⟨meg0, meg1, meg2, meg3⟩ := cell4s (HC.out.kept (w1.heap.size) (.cells #[.int .i64 1, .int .i64 2, .int .i64 3, .int .i64 4] 90 (0, 0) : Obj) (by simp))
 obtain ⟨ppg0, ppg1, ppg2, ppg3, ppg4, ppg5, ppg6, ppg7⟩ := cell8s (HC.out.kept (w1.heap.size + 1) (.cells #[.int .i64 17, .int .i64 18, .int .i64 5, .int .i64 6, .int .i64 15, .int .i64 16, .int .i64 5, .int .i64 6] 91 (0, 0) : Obj) (by simp))
 replace HC := Lib.hid (HC.out.boxB gP gN #[.int .i64 15, .int .i64 16, .int .i64 5, .int .i64 6] 43 (b := w2.heap.size + 1 + 1) (by simp))
 obtain ⟨mf0, mf1, mf2, mf3, mf4, mf5, mf6, mf7, mf8, mf9, mf10, mf11, mf12⟩ := cell13s (HC.out.kept (w2.heap.size) (.cells #[.int .i64 (m.i 0), .int .u64 (m.i 1), .int .u64 (m.i 2), .string m.s, .int .i64 (m.i 4), .int .i64 (m.i 5), .int .i64 (m.i 6), .int .i64 (m.i 7), .int .i64 (m.i 8), .int .i64 (m.i 9), .int .i64 (m.i 10), .int .u64 (m.i 11), .int .u64 (m.i 12)] 25 (0, 0) : Obj) (by simp))
 go_wp2_with fail
 clear meg0 meg1 meg2 meg3 ppg0 ppg1 ppg2 ppg3 ppg4 ppg5 ppg6 ppg7 mf0 mf1 mf2 mf3 mf4 mf5 mf6 mf7 mf8 mf9 mf10 mf11 mf12
 have HR : ∀ bs, ((w2.heap.size + 1 + 1, (.cells #[.int .i64 15, .int .i64 16, .int .i64 5, .int .i64 6] 43 (0, 0) : Obj)) : Nat × Obj) ∈ bs → RowB bs (some ⟨w2.heap.size + 1 + 1, 0, none⟩) [pA] := fun bs hm W hk => row_one (p := pA) (hk (w2.heap.size + 1 + 1) (.cells #[.int .i64 15, .int .i64 16, .int .i64 5, .int .i64 6] 43 (0, 0) : Obj) hm)
 refine (HC.out.hopen gN (x := 3) (y := 4) (ps := [pA]) (offer := ⟨#[1]⟩) k3 k4 (by rfl) (by decide) (HR _ (by simp)) (by simp; exact pA_wf) (by decide) S.out.mw S.out.c2).mono ?_
 rintro e w3 ⟨rfl, h⟩
 replace HC := Lib.hid h
 clear h HR
 simp only [Opd.v]
 replace HC := Lib.hid (HC.out.boxB gP gN #[.int .i64 y.CK, .int .i64 y.K, .int .i64 y.H, .int .u64 y.N, .int .i64 0, .int .i64 1, .int .u64 n, .int .i64 (m.i 6), .int .i64 (m.i 7), .int .i64 15] 64 (b := w3.heap.size) (by simp))
 obtain ⟨of0, of1, of2, of3, of4, of5, of6, of7, of8, of9⟩ := cell10s (HC.out.kept (w3.heap.size) (.cells #[.int .i64 y.CK, .int .i64 y.K, .int .i64 y.H, .int .u64 y.N, .int .i64 0, .int .i64 1, .int .u64 n, .int .i64 (m.i 6), .int .i64 (m.i 7), .int .i64 15] 64 (0, 0) : Obj) (by simp))
 go_wp2_with fail
 clear of0 of1 of2 of3 of4 of5 of6 of7 of8 of9
 refine (HC.out.hanswer gN (o := ⟨y, 0, 1, n, m.i 6, m.i 7, 15⟩) (fr := 9) (tt := 7) (d0 := 10) (d1 := 11) S.out.oy (u64_small (by omega) (by omega)) (u64_small (by omega) (by omega)) (i64_small (by omega) (by omega)) (i64_small (by omega) (by omega)) S.out.c3).mono ?_
 rintro e w4 ⟨rfl, h⟩
 replace HC := Lib.hid h
 clear h
 simp only [Ms.Ms.v, Ms.Ms.cl, Ses.v]
 replace HC := Lib.hid (HC.out.boxB gP gN #[.int .i64 (r.i 0), .int .u64 (r.i 1), .int .u64 (r.i 2), .string r.s, .int .i64 (r.i 4), .int .i64 (r.i 5), .int .i64 (r.i 6), .int .i64 (r.i 7), .int .i64 (r.i 8), .int .i64 (r.i 9), .int .i64 (r.i 10), .int .u64 (r.i 11), .int .u64 (r.i 12)] 25 (b := w4.heap.size) (by simp))
 replace HC := Lib.hid (HC.out.boxB gP gN #[.int .i64 u.h, .int .i64 u.send, .int .i64 u.recv, .int .i64 u.version] 75 (b := w4.heap.size + 1) (by simp))
 obtain ⟨mef0, mef1, mef2, mef3⟩ := cell4s (HC.out.kept (w1.heap.size) (.cells #[.int .i64 1, .int .i64 2, .int .i64 3, .int .i64 4] 90 (0, 0) : Obj) (by simp))
 obtain ⟨qf0, qf1, qf2, qf3, qf4, qf5, qf6⟩ := cell7s (HC.out.kept (w2.heap.size + 1) (.cells #[.int .i64 q.y.CK, .int .i64 q.y.K, .int .i64 q.y.H, .int .u64 q.y.N, .int .i64 q.e, .int .i64 q.ek, .string q.offer] 47 (0, 0) : Obj) (by simp))
 obtain ⟨rf0, rf1, rf2, rf3, rf4, rf5, rf6, rf7, rf8, rf9, rf10, rf11, rf12⟩ := cell13s (HC.out.kept (w4.heap.size) (.cells #[.int .i64 (r.i 0), .int .u64 (r.i 1), .int .u64 (r.i 2), .string r.s, .int .i64 (r.i 4), .int .i64 (r.i 5), .int .i64 (r.i 6), .int .i64 (r.i 7), .int .i64 (r.i 8), .int .i64 (r.i 9), .int .i64 (r.i 10), .int .u64 (r.i 11), .int .u64 (r.i 12)] 25 (0, 0) : Obj) (by simp))
 go_wp2_with fail
 clear mef0 mef1 mef2 mef3 qf0 qf1 qf2 qf3 qf4 qf5 qf6 rf0 rf1 rf2 rf3 rf4 rf5 rf6 rf7 rf8 rf9 rf10 rf11 rf12
 refine (HC.out.hfinish gN (x := 1) (y := 2) (p := q) (m := r) k1 S.out.qy ⟨by rw [S.out.qe]; exact i64_small (by omega) (by omega), by rw [S.out.qk]; exact i64_small (by omega) (by omega)⟩ S.out.rw S.out.c4).mono ?_
 rintro e w5 ⟨rfl, h⟩
 replace HC := Lib.hid h
 clear h
 simp only [Ses.v, zeroSes]
 replace HC := Lib.hid (HC.out.boxB gP gN #[.int .i64 u.h, .int .i64 u.recv, .int .i64 u.send, .int .i64 1] 75 (b := w5.heap.size) (by simp))
 go_upto_region 10 with fail
 generalize hwz : (w5.alloc (.cells #[.int .i64 u.h, .int .i64 u.recv, .int .i64 u.send, .int .i64 1] 75 (0, 0) : Obj)) = wz at HC ⊢
 clear hwz
 have HMm : Hid ((w2.heap.size) < wz.heap.size ∧ wz.heap[w2.heap.size]? = some (.cells #[.int .i64 (m.i 0), .int .u64 (m.i 1), .int .u64 (m.i 2), .string m.s, .int .i64 (m.i 4), .int .i64 (m.i 5), .int .i64 (m.i 6), .int .i64 (m.i 7), .int .i64 (m.i 8), .int .i64 (m.i 9), .int .i64 (m.i 10), .int .u64 (m.i 11), .int .u64 (m.i 12)] 25 (0, 0) : Obj)) := Lib.hid ⟨HC.out.pair.klt (w2.heap.size) ⟨(.cells #[.int .i64 (m.i 0), .int .u64 (m.i 1), .int .u64 (m.i 2), .string m.s, .int .i64 (m.i 4), .int .i64 (m.i 5), .int .i64 (m.i 6), .int .i64 (m.i 7), .int .i64 (m.i 8), .int .i64 (m.i 9), .int .i64 (m.i 10), .int .u64 (m.i 11), .int .u64 (m.i 12)] 25 (0, 0) : Obj), by simp⟩, HC.out.kept (w2.heap.size) (.cells #[.int .i64 (m.i 0), .int .u64 (m.i 1), .int .u64 (m.i 2), .string m.s, .int .i64 (m.i 4), .int .i64 (m.i 5), .int .i64 (m.i 6), .int .i64 (m.i 7), .int .i64 (m.i 8), .int .i64 (m.i 9), .int .i64 (m.i 10), .int .u64 (m.i 11), .int .u64 (m.i 12)] 25 (0, 0) : Obj) (by simp)⟩
 have HMr : Hid ((w4.heap.size) < wz.heap.size ∧ wz.heap[w4.heap.size]? = some (.cells #[.int .i64 (r.i 0), .int .u64 (r.i 1), .int .u64 (r.i 2), .string r.s, .int .i64 (r.i 4), .int .i64 (r.i 5), .int .i64 (r.i 6), .int .i64 (r.i 7), .int .i64 (r.i 8), .int .i64 (r.i 9), .int .i64 (r.i 10), .int .u64 (r.i 11), .int .u64 (r.i 12)] 25 (0, 0) : Obj)) := Lib.hid ⟨HC.out.pair.klt (w4.heap.size) ⟨(.cells #[.int .i64 (r.i 0), .int .u64 (r.i 1), .int .u64 (r.i 2), .string r.s, .int .i64 (r.i 4), .int .i64 (r.i 5), .int .i64 (r.i 6), .int .i64 (r.i 7), .int .i64 (r.i 8), .int .i64 (r.i 9), .int .i64 (r.i 10), .int .u64 (r.i 11), .int .u64 (r.i 12)] 25 (0, 0) : Obj), by simp⟩, HC.out.kept (w4.heap.size) (.cells #[.int .i64 (r.i 0), .int .u64 (r.i 1), .int .u64 (r.i 2), .string r.s, .int .i64 (r.i 4), .int .i64 (r.i 5), .int .i64 (r.i 6), .int .i64 (r.i 7), .int .i64 (r.i 8), .int .i64 (r.i 9), .int .i64 (r.i 10), .int .u64 (r.i 11), .int .u64 (r.i 12)] 25 (0, 0) : Obj) (by simp)⟩
 have HMpp : Hid ((w1.heap.size + 1) < wz.heap.size ∧ wz.heap[w1.heap.size + 1]? = some (.cells #[.int .i64 17, .int .i64 18, .int .i64 5, .int .i64 6, .int .i64 15, .int .i64 16, .int .i64 5, .int .i64 6] 91 (0, 0) : Obj)) := Lib.hid ⟨HC.out.pair.klt (w1.heap.size + 1) ⟨(.cells #[.int .i64 17, .int .i64 18, .int .i64 5, .int .i64 6, .int .i64 15, .int .i64 16, .int .i64 5, .int .i64 6] 91 (0, 0) : Obj), by simp⟩, HC.out.kept (w1.heap.size + 1) (.cells #[.int .i64 17, .int .i64 18, .int .i64 5, .int .i64 6, .int .i64 15, .int .i64 16, .int .i64 5, .int .i64 6] 91 (0, 0) : Obj) (by simp)⟩
 have HMu : Hid ((w4.heap.size + 1) < wz.heap.size ∧ wz.heap[w4.heap.size + 1]? = some (.cells #[.int .i64 u.h, .int .i64 u.send, .int .i64 u.recv, .int .i64 u.version] 75 (0, 0) : Obj)) := Lib.hid ⟨HC.out.pair.klt (w4.heap.size + 1) ⟨(.cells #[.int .i64 u.h, .int .i64 u.send, .int .i64 u.recv, .int .i64 u.version] 75 (0, 0) : Obj), by simp⟩, HC.out.kept (w4.heap.size + 1) (.cells #[.int .i64 u.h, .int .i64 u.send, .int .i64 u.recv, .int .i64 u.version] 75 (0, 0) : Obj) (by simp)⟩
 have HMv : Hid ((w5.heap.size) < wz.heap.size ∧ wz.heap[w5.heap.size]? = some (.cells #[.int .i64 u.h, .int .i64 u.recv, .int .i64 u.send, .int .i64 1] 75 (0, 0) : Obj)) := Lib.hid ⟨HC.out.pair.klt (w5.heap.size) ⟨(.cells #[.int .i64 u.h, .int .i64 u.recv, .int .i64 u.send, .int .i64 1] 75 (0, 0) : Obj), by simp⟩, HC.out.kept (w5.heap.size) (.cells #[.int .i64 u.h, .int .i64 u.recv, .int .i64 u.send, .int .i64 1] 75 (0, 0) : Obj) (by simp)⟩
 refine wp_region_held_drew (S := fun W => Below wz.heap.size wz W) (by kernel_rfl) ((Below.refl _ _).drew) (fun hHeld => ?_)
 generalize wz.drew = wS at hHeld ⊢
 have HBwS := Lib.hid hHeld
 refine tk 0 (hy := fun W hSw => by ((obtain ⟨mf0, mf1, mf2, mf3, mf4, mf5, mf6, mf7, mf8, mf9, mf10, mf11, mf12⟩ := cell13s ((hSw.block (w2.heap.size) HMm.out.1).trans HMm.out.2); obtain ⟨rf0, rf1, rf2, rf3, rf4, rf5, rf6, rf7, rf8, rf9, rf10, rf11, rf12⟩ := cell13s ((hSw.block (w4.heap.size) HMr.out.1).trans HMr.out.2); go_simp) <;> with_reducible rfl)) (h := ?_)
 refine tk 2 (hy := fun W hSw => by ((obtain ⟨mf0, mf1, mf2, mf3, mf4, mf5, mf6, mf7, mf8, mf9, mf10, mf11, mf12⟩ := cell13s ((hSw.block (w2.heap.size) HMm.out.1).trans HMm.out.2); obtain ⟨rf0, rf1, rf2, rf3, rf4, rf5, rf6, rf7, rf8, rf9, rf10, rf11, rf12⟩ := cell13s ((hSw.block (w4.heap.size) HMr.out.1).trans HMr.out.2); go_simp) <;> with_reducible rfl)) (h := ?_)
 refine rd 1 (h := fun K' hK => ?_)
 go_simp
 go_at_call 37
 refine (Ms.names_k m _ S.out.mw).mono ?_
 rintro e wa ⟨va, rfl, hO, hb⟩
 have HBwa : Hid (Below wz.heap.size wz wa) := Lib.hid (HBwS.out.trans (hb.mono HBwS.out.size))
 have HOva : Hid (OwnI wz.heap.size va [m.i 6, m.i 7, m.i 8, m.i 9, m.i 10] wa) := Lib.hid (by rw [S.out.nm] at hO; exact (OwnI.ofOwn hO).lower HBwS.out.size)
 clear hO hb
 go_wp2_with fail
 refine hK.out _ _ (HBwa.out) (fun hHeld => ?_)
 clear hK K'
 try simp only [Act.put, p1, p2, p3]
 refine rd 3 (h := fun K' hK => ?_)
 go_simp
 go_at_call 37
 refine (Ms.names_k r _ S.out.rw).mono ?_
 rintro e wb ⟨vb, rfl, hO, hb⟩
 have HBwb : Hid (Below wz.heap.size wz wb) := Lib.hid (HBwa.out.trans (hb.mono HBwa.out.size))
 have HOvb : Hid (OwnI wz.heap.size vb [r.i 6, r.i 8, r.i 9] wb) := Lib.hid (by rw [S.out.nr] at hO; exact (OwnI.ofOwn hO).lower HBwa.out.size)
 replace HOva := Lib.hid (HOva.out.below hb)
 clear hO hb
 go_wp2_with fail
 refine hK.out _ _ (HBwb.out) (fun hHeld => ?_)
 clear hK K'
 try simp only [Act.put, p1, p2, p3]
 refine rd 4 (h := fun K' hK => ?_)
 obtain ⟨gb, cb, rfl⟩ := HOvb.out.form (by simp)
 refine Eq.mpr (if_pos (show Region.wanted _ _ = true from rfl)) ?_
 refine oper_appN _ _ rfl wz.heap.size _ _ _ rfl HOva.out ⟨gb, 0, none⟩ _ cb rfl rfl HOvb.out.rowIn (by simp) HBwb.out.size ?_
 intro vc wc hO hb
 have HBwc : Hid (Below wz.heap.size wz wc) := Lib.hid (HBwb.out.trans hb)
 have HOvc := Lib.hid hO
 clear hO hb
 refine hK.out _ _ (HBwc.out) (fun hHeld => ?_)
 clear hK K'
 try simp only [Act.put, p1, p2, p3]
 refine tk 5 (h := ?_)
 refine wpAnyH_done (by kernel_rfl) ?_ _
 clear hHeld HOva HOvb
 obtain ⟨gc, cc, rfl⟩ : ∃ g cap, vc = .slice (some ⟨g, 0, none⟩) 8 cap := HOvc.out.form (by simp)
 obtain ⟨ppf0, ppf1, ppf2, ppf3, ppf4, ppf5, ppf6, ppf7⟩ := cell8s ((HBwc.out.block (w1.heap.size + 1) HMpp.out.1).trans HMpp.out.2)
 go_upto_region 13 with (at_builtin; refine wpList_appN rfl _ _ rfl wz.heap.size _ (heard m r) [1, 2, 3, 4, 5, 6, 17, 18, 15, 16] rfl ((OwnI.below HOvc.out (below_alloc _ _))) ⟨wc.heap.size, 0, none⟩ 10 10 rfl rfl (OwnI.rowIn (lit_own wc [1, 2, 3, 4, 5, 6, 17, 18, 15, 16] (by simp [maxLen]))) (by simp [heard]) (Nat.le_trans HBwc.out.size (by simp)) ?_; intro vd wd hO hb; have HBwd : Hid (Below wz.heap.size wz wd) := Lib.hid ((HBwc.out.alloc HBwc.out.size _).trans hb); have HOvd := Lib.hid hO; clear hO hb; obtain ⟨gd, cd, rfl⟩ : ∃ g cap, vd = .slice (some ⟨g, 0, none⟩) 18 cap := HOvd.out.form (by simp))
 clear ppf0 ppf1 ppf2 ppf3 ppf4 ppf5 ppf6 ppf7
 have HBwe : Hid (Below wz.heap.size wz (wd.alloc (.cells #[.bool dh, .bool kem] 104 : Obj))) := Lib.hid (HBwd.out.alloc HBwd.out.size _)
 have HOe : Hid (OwnI wz.heap.size (.slice (some ⟨gd, 0, none⟩) 18 cd) (heard m r ++ [1, 2, 3, 4, 5, 6, 17, 18, 15, 16]) (wd.alloc (.cells #[.bool dh, .bool kem] 104 : Obj))) := Lib.hid (HOvd.out.below (below_alloc _ _))
 have HFl : Hid (wd.heap.size < (wd.alloc (.cells #[.bool dh, .bool kem] 104 : Obj)).heap.size ∧ (wd.alloc (.cells #[.bool dh, .bool kem] 104 : Obj)).heap[wd.heap.size]? = some (.cells #[.bool dh, .bool kem] 104 (0, 0) : Obj)) := Lib.hid ⟨by simp, heap_alloc_new wd _⟩
 generalize (wd.alloc (.cells #[.bool dh, .bool kem] 104 : Obj)) = we at HBwe HOe HFl ⊢
 generalize wd.heap.size = bf at HFl ⊢
 clear HOvd HOvc HBwc HBwd
 have HIn : Hid (∀ x, x ∈ heard m r ++ [1, 2, 3, 4, 5, 6, 17, 18, 15, 16] → InL L4 x) := Lib.hid (fun x hx => by
  have hl := S.out.len
  rcases List.mem_append.1 hx with q | q
  ·exact S.out.inh x q
  ·simp only [List.mem_cons, List.not_mem_nil, or_false] at q
   unfold InL
   omega)
 obtain ⟨C, hC⟩ := least_is HC.out.pair.facts.1 HIn.out dh kem
 have HL := Lib.hid hC
 clear hC
 have HXwe : Hid (Below we.heap.size we we) := Lib.hid (Below.refl _ _)
 cases dh <;> cases kem
 ·obtain ⟨fl0, fl1⟩ := cells2 ((HXwe.out.block bf HFl.out.1).trans HFl.out.2)
  obtain ⟨ug0, ug1, ug2, ug3⟩ := cell4s ((HBwe.out.block (w4.heap.size + 1) HMu.out.1).trans HMu.out.2)
  go_wp2_with fail
  clear fl0 fl1 ug0 ug1 ug2 ug3
  refine (can_own gN HC.out S.out.fine HBwe.out HL.out HIn.out (S.out.ins.1) (b := wz.heap.size) (HOe.out.below HXwe.out) ((S.out.era false false C HL.out).1)).mono ?_
  rintro e wk6 ⟨rfl, hb⟩
  have HBwk6 : Hid (Below wz.heap.size wz wk6) := Lib.hid (HBwe.out.trans (hb.mono HBwe.out.size))
  have HXwk6 : Hid (Below we.heap.size we wk6) := Lib.hid (HXwe.out.trans (hb.mono HXwe.out.size))
  clear hb
  obtain ⟨fl0, fl1⟩ := cells2 ((HXwk6.out.block bf HFl.out.1).trans HFl.out.2)
  obtain ⟨vg0, vg1, vg2, vg3⟩ := cell4s ((HBwk6.out.block (w5.heap.size) HMv.out.1).trans HMv.out.2)
  go_wp2_with fail
  clear fl0 fl1 vg0 vg1 vg2 vg3
  refine (can_own gN HC.out S.out.fine HBwk6.out HL.out HIn.out (S.out.ins.2) (b := wz.heap.size) (HOe.out.below HXwk6.out) ((S.out.era false false C HL.out).2)).mono ?_
  rintro e wk7 ⟨rfl, hb⟩
  have HBwk7 : Hid (Below wz.heap.size wz wk7) := Lib.hid (HBwk6.out.trans (hb.mono HBwk6.out.size))
  have HXwk7 : Hid (Below we.heap.size we wk7) := Lib.hid (HXwk6.out.trans (hb.mono HXwk6.out.size))
  clear hb
  obtain ⟨fl0, fl1⟩ := cells2 ((HXwk7.out.block bf HFl.out.1).trans HFl.out.2)
  go_wp2_with fail
  refine (fixed_any _).mono ?_
  rintro e w' ⟨rfl, hb⟩
  go_wp2_with fail
  go_ret
  exact ⟨rfl, HC.out.low.trans ((HBwk7.out.trans (hb.mono HBwk7.out.size)).mono HC.out.low.size)⟩
 ·obtain ⟨fl0, fl1⟩ := cells2 ((HXwe.out.block bf HFl.out.1).trans HFl.out.2)
  obtain ⟨ug0, ug1, ug2, ug3⟩ := cell4s ((HBwe.out.block (w4.heap.size + 1) HMu.out.1).trans HMu.out.2)
  go_wp2_with fail
  clear fl0 fl1 ug0 ug1 ug2 ug3
  refine (can_own gN HC.out S.out.fine HBwe.out HL.out HIn.out (S.out.ins.1) (b := wz.heap.size) (HOe.out.below HXwe.out) ((S.out.era false true C HL.out).1)).mono ?_
  rintro e wk8 ⟨rfl, hb⟩
  have HBwk8 : Hid (Below wz.heap.size wz wk8) := Lib.hid (HBwe.out.trans (hb.mono HBwe.out.size))
  have HXwk8 : Hid (Below we.heap.size we wk8) := Lib.hid (HXwe.out.trans (hb.mono HXwe.out.size))
  clear hb
  obtain ⟨fl0, fl1⟩ := cells2 ((HXwk8.out.block bf HFl.out.1).trans HFl.out.2)
  obtain ⟨vg0, vg1, vg2, vg3⟩ := cell4s ((HBwk8.out.block (w5.heap.size) HMv.out.1).trans HMv.out.2)
  go_wp2_with fail
  clear fl0 fl1 vg0 vg1 vg2 vg3
  refine (can_own gN HC.out S.out.fine HBwk8.out HL.out HIn.out (S.out.ins.2) (b := wz.heap.size) (HOe.out.below HXwk8.out) ((S.out.era false true C HL.out).2)).mono ?_
  rintro e wk9 ⟨rfl, hb⟩
  have HBwk9 : Hid (Below wz.heap.size wz wk9) := Lib.hid (HBwk8.out.trans (hb.mono HBwk8.out.size))
  have HXwk9 : Hid (Below we.heap.size we wk9) := Lib.hid (HXwk8.out.trans (hb.mono HXwk8.out.size))
  clear hb
  obtain ⟨fl0, fl1⟩ := cells2 ((HXwk9.out.block bf HFl.out.1).trans HFl.out.2)
  go_wp2_with fail
  refine (fixed_any _).mono ?_
  rintro e w' ⟨rfl, hb⟩
  go_wp2_with fail
  go_ret
  exact ⟨rfl, HC.out.low.trans ((HBwk9.out.trans (hb.mono HBwk9.out.size)).mono HC.out.low.size)⟩
 ·obtain ⟨fl0, fl1⟩ := cells2 ((HXwe.out.block bf HFl.out.1).trans HFl.out.2)
  obtain ⟨ug0, ug1, ug2, ug3⟩ := cell4s ((HBwe.out.block (w4.heap.size + 1) HMu.out.1).trans HMu.out.2)
  go_wp2_with fail
  clear fl0 fl1 ug0 ug1 ug2 ug3
  refine (can_own gN HC.out S.out.fine HBwe.out HL.out HIn.out (S.out.ins.1) (b := wz.heap.size) (HOe.out.below HXwe.out) ((S.out.era true false C HL.out).1)).mono ?_
  rintro e wk10 ⟨rfl, hb⟩
  have HBwk10 : Hid (Below wz.heap.size wz wk10) := Lib.hid (HBwe.out.trans (hb.mono HBwe.out.size))
  have HXwk10 : Hid (Below we.heap.size we wk10) := Lib.hid (HXwe.out.trans (hb.mono HXwe.out.size))
  clear hb
  obtain ⟨fl0, fl1⟩ := cells2 ((HXwk10.out.block bf HFl.out.1).trans HFl.out.2)
  obtain ⟨vg0, vg1, vg2, vg3⟩ := cell4s ((HBwk10.out.block (w5.heap.size) HMv.out.1).trans HMv.out.2)
  go_wp2_with fail
  clear fl0 fl1 vg0 vg1 vg2 vg3
  refine (can_own gN HC.out S.out.fine HBwk10.out HL.out HIn.out (S.out.ins.2) (b := wz.heap.size) (HOe.out.below HXwk10.out) ((S.out.era true false C HL.out).2)).mono ?_
  rintro e wk11 ⟨rfl, hb⟩
  have HBwk11 : Hid (Below wz.heap.size wz wk11) := Lib.hid (HBwk10.out.trans (hb.mono HBwk10.out.size))
  have HXwk11 : Hid (Below we.heap.size we wk11) := Lib.hid (HXwk10.out.trans (hb.mono HXwk10.out.size))
  clear hb
  obtain ⟨fl0, fl1⟩ := cells2 ((HXwk11.out.block bf HFl.out.1).trans HFl.out.2)
  go_wp2_with fail
  refine (fixed_any _).mono ?_
  rintro e w' ⟨rfl, hb⟩
  go_wp2_with fail
  go_ret
  exact ⟨rfl, HC.out.low.trans ((HBwk11.out.trans (hb.mono HBwk11.out.size)).mono HC.out.low.size)⟩
 ·obtain ⟨fl0, fl1⟩ := cells2 ((HXwe.out.block bf HFl.out.1).trans HFl.out.2)
  obtain ⟨ug0, ug1, ug2, ug3⟩ := cell4s ((HBwe.out.block (w4.heap.size + 1) HMu.out.1).trans HMu.out.2)
  go_wp2_with fail
  clear fl0 fl1 ug0 ug1 ug2 ug3
  refine (can_own gN HC.out S.out.fine HBwe.out HL.out HIn.out (S.out.ins.1) (b := wz.heap.size) (HOe.out.below HXwe.out) ((S.out.era true true C HL.out).1)).mono ?_
  rintro e wk12 ⟨rfl, hb⟩
  have HBwk12 : Hid (Below wz.heap.size wz wk12) := Lib.hid (HBwe.out.trans (hb.mono HBwe.out.size))
  have HXwk12 : Hid (Below we.heap.size we wk12) := Lib.hid (HXwe.out.trans (hb.mono HXwe.out.size))
  clear hb
  obtain ⟨fl0, fl1⟩ := cells2 ((HXwk12.out.block bf HFl.out.1).trans HFl.out.2)
  obtain ⟨vg0, vg1, vg2, vg3⟩ := cell4s ((HBwk12.out.block (w5.heap.size) HMv.out.1).trans HMv.out.2)
  go_wp2_with fail
  clear fl0 fl1 vg0 vg1 vg2 vg3
  refine (can_own gN HC.out S.out.fine HBwk12.out HL.out HIn.out (S.out.ins.2) (b := wz.heap.size) (HOe.out.below HXwk12.out) ((S.out.era true true C HL.out).2)).mono ?_
  rintro e wk13 ⟨rfl, hb⟩
  have HBwk13 : Hid (Below wz.heap.size wz wk13) := Lib.hid (HBwk12.out.trans (hb.mono HBwk12.out.size))
  have HXwk13 : Hid (Below we.heap.size we wk13) := Lib.hid (HXwk12.out.trans (hb.mono HXwk12.out.size))
  clear hb
  obtain ⟨fl0, fl1⟩ := cells2 ((HXwk13.out.block bf HFl.out.1).trans HFl.out.2)
  go_wp2_with fail
  refine (fixed_any _).mono ?_
  rintro e w' ⟨rfl, hb⟩
  go_wp2_with fail
  go_ret
  exact ⟨rfl, HC.out.low.trans ((HBwk13.out.trans (hb.mono HBwk13.out.size)).mono HC.out.low.size)⟩
theorem walk (a0 a1 : Int) (w : World) (w0 : (Lit.int .u8 a0).wf = true) (w1 : (Lit.int .u8 a1).wf = true) : Calls Tryz.prog 7 #[.int .u8 a0, .int .u8 a1] w fun e w' => e = .returned (.bool true) ∧ Below w.heap.size w w' := by
 have b0 := byte_in w0
 have b1 := byte_in w1
 obtain ⟨n, rfl⟩ : ∃ n : Nat, a1 = (n : Int) := ⟨a1.toNat, by omega⟩
 have hn : n < 256 := by omega
 have eN : IntKind.u64.wrap (n : Int) = (n : Int) := wrap_u64 (by omega) (by omega)
 have m0 : (wrap64 a0).tmod 2 = 0 ∨ (wrap64 a0).tmod 2 = 1 := by rw [show wrap64 a0 = a0 by unfold wrap64; omega, Int.tmod_eq_emod_of_nonneg (by omega)]; omega
 obtain ⟨sl, hsl⟩ : ∃ sl, (wrap64 a0).tmod 2 = sl := ⟨_, rfl⟩
 rw [hsl] at m0
 obtain ⟨m, q, y, r, u, L1, L2, L3, L4, S⟩ := who_is m0 hn
 exact walkW a0 w (Lib.hid hn) (Lib.hid (by omega)) (Lib.hid eN) (Lib.hid hsl) (Lib.hid S) rfl rfl
set_option maxRecDepth 100000 in
theorem lifted (os : Os) (started : os.Started) (H : Type) (enc : TypeId × Value → H) :
  ReturnsInHanded {} Tryz.checked os 7 .any (fun w args => (Rows.handErasedSpec.pre enc Tryz.prog Tryz.f7 [] false w args ∧ laidMetH Tryz.prog laidX w) ∧ sizedMet enc Tryz.prog Tryz.f7 (OpenSpec.ofChange Rows.handErasedSpec) false w args) (Rows.handErasedSpec.post enc Tryz.prog Tryz.f7 false true false false) := by
 refine returnsInHanded_of_change_and (C := Tryz.checked) (X := fun w _ => laidMetH Tryz.prog laidX w) (fun _ _ _ hh h => h.of_heap hh) own started (by kernel_rfl) Tryz.func7
  (ChangeSpec.witness_shaped (enc := enc) (C := Tryz.checked) (os := os) (X := fun w _ => laidMetH Tryz.prog laidX w) false (World.doorLaid Tryz.prog 400 os) #[.int .u8 0, .int .u8 0] 8 rfl (World.shaped_of_RefB (by kernel_rfl) (by kernel_rfl)) (by kernel_rfl) (by kernel_rfl) (by kernel_rfl) (door_met os _)) ?_
 intro W base args ds gs before hval0 hW hcnd _ _ _
 have hval : ∀ (j : Nat) t v, Tryz.f7.params[j]? = some t → args[j]? = some v → Value.okWide Tryz.prog W .any base t v := hval0
 have hW' := hW
 obtain ⟨p, q, hA0, hV, rfl, hfz, hnd⟩ := hW
 have hA : DataW.TrodAll enc Tryz.prog W 0 (fun _ => true) true Tryz.f7.params.toList args.toList ds p := hA0
 rw [Tryz.params7] at hA hval
 obtain ⟨v0, vs0, d0, ds0, p0, q0, hargs, rfl, rfl, h0, r0⟩ := trodAll_cons hA
 obtain ⟨v1, vs1, d1, ds1, p1, q1, rfl, rfl, rfl, h1, r1⟩ := trodAll_cons r0
 obtain ⟨rfl, rfl, rfl⟩ := trodAll_nil r1
 obtain rfl : args = #[v0, v1] := by cases args; simp_all
 obtain ⟨rfl, rfl⟩ := trodVars_none hV
 obtain ⟨a0, rfl, rfl, rfl, w0⟩ := open_int Tryz.underlying5 (hval 0 5 v0 rfl rfl) h0
 obtain ⟨a1, rfl, rfl, rfl, w1⟩ := open_int Tryz.underlying5 (hval 1 5 v1 rfl rfl) h1
 clear hA0 hval0
 refine (walk a0 a1 W w0 w1).mono fun e W' ⟨he, bel⟩ => ?_
 subst he
 exact ⟨_, rfl, _, _, _, [], _, [], hW', trodAll_mk1 (shut_bool Tryz.underlying4 _), (trodAll_cons_mk (shut_int Tryz.underlying5 w0) (trodAll_cons_mk (shut_int Tryz.underlying5 w1) trodAll_mk0)), rfl, bel.frame _, fun h => by cases h⟩
theorem over : Rows.handErasedRow.holds Tryz.pinned (OpenSpec.ofChange Rows.handErasedSpec) :=
 OpenClaim.holds_of_wide 7 Tryz.f7 rfl rfl rfl rfl rfl rfl rfl ⟨rfl, rfl, rfl, rfl, rfl⟩ rfl rfl rfl rfl rfl (by kernel_rfl) Tryz.func7 (by kernel_rfl)
  (of_decide_eq_true (by kernel_rfl)) (by unfold Func.isWrapper; first | (rw [if_pos (by decide +kernel)]; kernel_rfl) | (rw [if_neg (by decide +kernel)]; exact ⟨rfl, rfl⟩))
  (fun os started H enc _ => lifted os started H enc)
theorem proved : Rows.HandErasedCardSaid :=
 Claim7.holds_tied_plain_at .later [] [.data, .data, .data] true (true, "214d8958b74491cbef1c0d449ff4d349e3047b1a9571b3ced18372bfe132fcea") true
  over (fun _ h => by cases h) (by kernel_rfl) (fun _ h => by cases h) handErased_row_tie rfl ⟨rfl, rfl⟩ (by kernel_rfl) rfl
  (fun f fn hf hfn => by
    obtain rfl : f = 7 := Option.some.inj ((show Tryz.prog.funcNamed "sough/soughlaw17.HandErased" = some 7 by kernel_rfl).symm.trans hf) |>.symm
    obtain rfl : fn = Tryz.f7 := (Option.some.inj (Tryz.func7.symm.trans hfn)).symm
    exact ⟨by kernel_rfl, fun j t ht => by
     rw [Tryz.params7] at ht
     have hm : t ∈ [5, 5] := by simpa using Array.mem_of_getElem? ht
     have hall : ([5, 5].all fun u => !Tryz.prog.wantsStandIn u) = true := by kernel_rfl
     exact (show Tryz.prog.wantsStandIn t = false by simpa using List.all_eq_true.1 hall t hm)⟩)
  (by kernel_rfl)
#print axioms proved
end Go.Proofs.YtgeonppckeiceaaGreatDoor.handErased
