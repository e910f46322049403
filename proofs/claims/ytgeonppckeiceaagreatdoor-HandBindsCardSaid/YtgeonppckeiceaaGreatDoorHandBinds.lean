/- With another field in between a handshake is not opened, nor an answer taken, for every input. -/
import Derived.Test.YtgeonppckeiceaaGreatDoorCards
import Derived.Test.YtgeonppckeiceaaGreatDoorTie
import Derived.Test.YtgeonppckeiceaaGreatDoorGp43
import Derived.Test.YtgeonppckeiceaaGreatDoorHandD
import Derived.Deep.RegionWith
import Derived.Deep.CutRange
import Derived.Deep.CutBlock
import Derived.WalkKit
import Derived.ProofKit
import Derived.OpenShut
import Derived.ShutString
import Derived.ChangeOld
import Derived.Below
import Derived.LaidMore
import Derived.Stop.Joined
import Derived.SevenTiedAt
namespace Go.Proofs.YtgeonppckeiceaaGreatDoor.handBinds
open Go.ChangeShapes Go.WideShapes Go.ChangeAt Go.RowKit
open Go.ChangeMaps (open_string shut_string)
open Go.Proofs.YtgeonppckeiceaaGreatDoor
set_option linter.unusedVariables false
set_option linter.unusedSimpArgs false

theorem own : ownKnob Tryz.prog.godebug = none := by kernel_rfl
theorem laidOut : laidOutB Tryz.prog = true := by kernel_rfl

abbrev laidX {H : Type} : List (String × DataW H) := [("math/bits.deBruijn32tab", Rows.laid_math_bits_deBruijn32tab), ("math/bits.deBruijn64tab", Rows.laid_math_bits_deBruijn64tab), ("internal/strconv.uint64pow10", Rows.laid_internal_strconv_uint64pow10)]
theorem door_met (os : Os) (args : Array Value) : laidMetH Tryz.prog laidX ((World.doorLaid Tryz.prog 400 os).forCall (fun _ _ => 0) ⟨#[], args, []⟩).memory :=
  laidMetH_of_parts3 (fuel := 8) (laidMet_of_run' 8 (by kernel_rfl) (by kernel_rfl)) (by kernel_rfl) (by kernel_rfl)

theorem wrap_is (n : Int) : IntKind.i64.wrap n = wrap64 n := by
  first | exact IntWalk.i64_left n | exact Go.IntWalk.i64_left n
theorem _root_.Go.Proofs.YtgeonppckeiceaaGreatDoor.Cs.more {base : Nat} {Q1 Q2 : (Nat → Prop) → List Tm → World → Prop} {L1 L2 : List Tm} {bs news : List (Nat × Obj)} {w0 w w' : World} (g1 : Good base Q1) (g2 : Good base Q2) (h : Cs base Q1 Q2 L1 L2 bs w0 w) (hb : Below w.heap.size w w') (hn : ∀ z, z ∈ news → w.heap.size ≤ z.1 ∧ w'.heap[z.1]? = some z.2) : Cs base Q1 Q2 L1 L2 (news ++ bs) w0 w' := by
  have hp := h.pair.below g1 g2 hb
  obtain ⟨⟨F1, F2, a1, a2, a3, a4, a5, a6⟩, hk, hs⟩ := h
  have b1 := fun k hk => g1.bounds a1 k hk
  have b2 := fun k hk => g2.bounds a2 k hk
  refine ⟨⟨F1, F2, g1.frame a1 (S := fun _ => False) (.of_below hb) (fun _ _ q => q), g2.frame a2 (S := fun _ => False) (.of_below hb) (fun _ _ q => q), a3, fun k ⟨o, q⟩ => ?_, a5, ?_⟩, fun k o q => ?_, hs⟩
  · rcases List.mem_append.1 q with r | r
    · have hz := hn _ r
      exact ⟨fun e => by have := (b1 k e).2; have := hz.1; dsimp only at this; omega, fun e => by have := (b2 k e).2; have := hz.1; dsimp only at this; omega, lt_some hz.2⟩
    · have := a4 k ⟨o, r⟩
      exact ⟨this.1, this.2.1, Nat.lt_of_lt_of_le this.2.2 hb.size⟩
  · rw [a5]; exact hp.belowW
  · rcases List.mem_append.1 q with r | r
    · exact (hn _ r).2
    · exact (hb.block k (a4 k ⟨o, r⟩).2.2).trans (hk k o r)
set_option maxHeartbeats 40000000 in
set_option maxRecDepth 200000 in
theorem walkW (a0 a1 : Int) (w : World) {m r : Mg} {q : Pnd} {o : Opd} {u : Ses} {L1 L2 L3 : List Tm} {k : Int} {wh : Nat} (h9 : Hid (wh < 9)) (e0 : a0.tmod 9 = (wh : Int)) (e1 : wrap64 (1 + (wrap64 a1).tmod 74) = k) (eI : Hid (IntKind.i64.wrap (1 + (IntKind.i64.wrap a1).tmod 74) = k)) (S : Hid (BaseIs m q o r u L1 L2 L3)) (B : Hid (∃ wo h L4 v i L5, BindIs m r q L3 (xOf m k wh) (yOf r k wh) wo h L4 v i L5)) : Calls Tryz.prog 5 #[.int .u8 a0, .int .u8 a1] w fun e w' => e = .returned (.bool true) ∧ Below w.heap.size w w' := by
  have gN := NoS.good w.heap.size
  go_enter Tryz.func5, Tryz.ntmps5
  go_wp2_with fail
  refine (two_k w).mono ?_
  rintro e w1 ⟨g, rfl, h1⟩
  have gP := PSq.good w.heap.size g 5000
  have HC := Lib.hid h1
  clear h1
  replace HC := Lib.hid (HC.out.boxB gP gN #[.int .i64 1, .int .i64 2, .int .i64 3, .int .i64 4] 90 (b := w1.heap.size) (by simp))
  replace HC := Lib.hid (HC.out.boxB gP gN #[.int .i64 17, .int .i64 18, .int .i64 5, .int .i64 6, .int .i64 15, .int .i64 16, .int .i64 5, .int .i64 6] 91 (b := w1.heap.size + 1) (by simp))
  obtain ⟨mef0, mef1, mef2, mef3⟩ := cell4s (HC.out.kept (w1.heap.size) (.cells #[.int .i64 1, .int .i64 2, .int .i64 3, .int .i64 4] 90 (0, 0) : Obj) (by simp))
  obtain ⟨ppf0, ppf1, ppf2, ppf3, ppf4, ppf5, ppf6, ppf7⟩ := cell8s (HC.out.kept (w1.heap.size + 1) (.cells #[.int .i64 17, .int .i64 18, .int .i64 5, .int .i64 6, .int .i64 15, .int .i64 16, .int .i64 5, .int .i64 6] 91 (0, 0) : Obj) (by simp))
  go_wp2_with fail
  clear mef0 mef1 mef2 mef3 ppf0 ppf1 ppf2 ppf3 ppf4 ppf5 ppf6 ppf7
  refine (HC.out.hbegin gN (a1 := 1) (a2 := 2) (d0 := 7) (d1 := 8) (d2 := 9) (p := pB) (m0 := mIn ⟨#[3, 1]⟩ 0) (stamp := 5) k1 k2 pB_wf (mIn_wf (by decide) (by omega) (by omega)) (by omega) k7 k8 k9 S.out.c1).mono ?_
  rintro e w2 ⟨rfl, h⟩
  replace HC := Lib.hid h
  clear h
  simp only [Ms.Ms.v, Ms.Ms.cl, Pnd.v]
  replace HC := Lib.hid (HC.out.boxB gP gN #[.int .i64 (m.i 0), .int .u64 (m.i 1), .int .u64 (m.i 2), .string m.s, .int .i64 (m.i 4), .int .i64 (m.i 5), .int .i64 (m.i 6), .int .i64 (m.i 7), .int .i64 (m.i 8), .int .i64 (m.i 9), .int .i64 (m.i 10), .int .u64 (m.i 11), .int .u64 (m.i 12)] 25 (b := w2.heap.size) (by simp))
  replace HC := Lib.hid (HC.out.boxB gP gN #[.int .i64 q.y.CK, .int .i64 q.y.K, .int .i64 q.y.H, .int .u64 q.y.N, .int .i64 q.e, .int .i64 q.ek, .string q.offer] 47 (b := w2.heap.size + 1) (by simp))
  obtain ⟨meg0, meg1, meg2, meg3⟩ := cell4s (HC.out.kept (w1.heap.size) (.cells #[.int .i64 1, .int .i64 2, .int .i64 3, .int .i64 4] 90 (0, 0) : Obj) (by simp))
  obtain ⟨ppg0, ppg1, ppg2, ppg3, ppg4, ppg5, ppg6, ppg7⟩ := cell8s (HC.out.kept (w1.heap.size + 1) (.cells #[.int .i64 17, .int .i64 18, .int .i64 5, .int .i64 6, .int .i64 15, .int .i64 16, .int .i64 5, .int .i64 6] 91 (0, 0) : Obj) (by simp))
  replace HC := Lib.hid (HC.out.boxB gP gN #[.int .i64 15, .int .i64 16, .int .i64 5, .int .i64 6] 43 (b := w2.heap.size + 1 + 1) (by simp))
  obtain ⟨mf0, mf1, mf2, mf3, mf4, mf5, mf6, mf7, mf8, mf9, mf10, mf11, mf12⟩ := cell13s (HC.out.kept (w2.heap.size) (.cells #[.int .i64 (m.i 0), .int .u64 (m.i 1), .int .u64 (m.i 2), .string m.s, .int .i64 (m.i 4), .int .i64 (m.i 5), .int .i64 (m.i 6), .int .i64 (m.i 7), .int .i64 (m.i 8), .int .i64 (m.i 9), .int .i64 (m.i 10), .int .u64 (m.i 11), .int .u64 (m.i 12)] 25 (0, 0) : Obj) (by simp))
  go_wp2_with fail
  clear meg0 meg1 meg2 meg3 ppg0 ppg1 ppg2 ppg3 ppg4 ppg5 ppg6 ppg7 mf0 mf1 mf2 mf3 mf4 mf5 mf6 mf7 mf8 mf9 mf10 mf11 mf12
  have HR : ∀ bs, ((w2.heap.size + 1 + 1, (.cells #[.int .i64 15, .int .i64 16, .int .i64 5, .int .i64 6] 43 (0, 0) : Obj)) : Nat × Obj) ∈ bs → RowB bs (some ⟨w2.heap.size + 1 + 1, 0, none⟩) [pA] := fun bs hm W hk => row_one (p := pA) (hk (w2.heap.size + 1 + 1) (.cells #[.int .i64 15, .int .i64 16, .int .i64 5, .int .i64 6] 43 (0, 0) : Obj) hm)
  refine (HC.out.hopen gN (x := 3) (y := 4) (ps := [pA]) (offer := ⟨#[3, 2, 1]⟩) k3 k4 (by rfl) (by decide) (HR _ (by simp)) (by simp; exact pA_wf) (by decide) S.out.mw S.out.c2).mono ?_
  rintro e w3 ⟨rfl, h⟩
  replace HC := Lib.hid h
  clear h HR
  simp only [Opd.v]
  replace HC := Lib.hid (HC.out.boxB gP gN #[.int .i64 o.y.CK, .int .i64 o.y.K, .int .i64 o.y.H, .int .u64 o.y.N, .int .i64 o.peer, .int .i64 o.version, .int .u64 o.stamp, .int .i64 o.e, .int .i64 o.ek, .int .i64 o.pub] 64 (b := w3.heap.size) (by simp))
  obtain ⟨of0, of1, of2, of3, of4, of5, of6, of7, of8, of9⟩ := cell10s (HC.out.kept (w3.heap.size) (.cells #[.int .i64 o.y.CK, .int .i64 o.y.K, .int .i64 o.y.H, .int .u64 o.y.N, .int .i64 o.peer, .int .i64 o.version, .int .u64 o.stamp, .int .i64 o.e, .int .i64 o.ek, .int .i64 o.pub] 64 (0, 0) : Obj) (by simp))
  go_wp2_with fail
  clear of0 of1 of2 of3 of4 of5 of6 of7 of8 of9
  refine (HC.out.hanswer gN (o := o) (fr := 9) (tt := 7) (d0 := 10) (d1 := 11) S.out.oy (u64_small (by omega) (by omega)) (u64_small (by omega) (by omega)) (i64_small (by omega) (by omega)) (i64_small (by omega) (by omega)) S.out.c3).mono ?_
  rintro e w4 ⟨rfl, h⟩
  replace HC := Lib.hid h
  clear h
  simp only [Ms.Ms.v, Ms.Ms.cl, Ses.v]
  replace HC := Lib.hid (HC.out.boxB gP gN #[.int .i64 (r.i 0), .int .u64 (r.i 1), .int .u64 (r.i 2), .string r.s, .int .i64 (r.i 4), .int .i64 (r.i 5), .int .i64 (r.i 6), .int .i64 (r.i 7), .int .i64 (r.i 8), .int .i64 (r.i 9), .int .i64 (r.i 10), .int .u64 (r.i 11), .int .u64 (r.i 12)] 25 (b := w4.heap.size) (by simp))
  replace HC := Lib.hid (HC.out.boxB gP gN #[.int .i64 u.h, .int .i64 u.send, .int .i64 u.recv, .int .i64 u.version] 75 (b := w4.heap.size + 1) (by simp))
  go_upto_region 9 with fail
  generalize hwr : ((w4.alloc (.cells #[.int .i64 (r.i 0), .int .u64 (r.i 1), .int .u64 (r.i 2), .string r.s, .int .i64 (r.i 4), .int .i64 (r.i 5), .int .i64 (r.i 6), .int .i64 (r.i 7), .int .i64 (r.i 8), .int .i64 (r.i 9), .int .i64 (r.i 10), .int .u64 (r.i 11), .int .u64 (r.i 12)] 25 (0, 0) : Obj)).alloc (.cells #[.int .i64 u.h, .int .i64 u.send, .int .i64 u.recv, .int .i64 u.version] 75 (0, 0) : Obj)) = wz at HC ⊢
  clear hwr
  have HMme := ((w1.heap.size : Nat), (.cells #[.int .i64 1, .int .i64 2, .int .i64 3, .int .i64 4] 90 (0, 0) : Obj))
  clear HMme
  have HMpp := ((w1.heap.size + 1 : Nat), (.cells #[.int .i64 17, .int .i64 18, .int .i64 5, .int .i64 6, .int .i64 15, .int .i64 16, .int .i64 5, .int .i64 6] 91 (0, 0) : Obj))
  clear HMpp
  have HMm := ((w2.heap.size : Nat), (.cells #[.int .i64 (m.i 0), .int .u64 (m.i 1), .int .u64 (m.i 2), .string m.s, .int .i64 (m.i 4), .int .i64 (m.i 5), .int .i64 (m.i 6), .int .i64 (m.i 7), .int .i64 (m.i 8), .int .i64 (m.i 9), .int .i64 (m.i 10), .int .u64 (m.i 11), .int .u64 (m.i 12)] 25 (0, 0) : Obj))
  clear HMm
  have HMq := ((w2.heap.size + 1 : Nat), (.cells #[.int .i64 q.y.CK, .int .i64 q.y.K, .int .i64 q.y.H, .int .u64 q.y.N, .int .i64 q.e, .int .i64 q.ek, .string q.offer] 47 (0, 0) : Obj))
  clear HMq
  have HMr := ((w4.heap.size : Nat), (.cells #[.int .i64 (r.i 0), .int .u64 (r.i 1), .int .u64 (r.i 2), .string r.s, .int .i64 (r.i 4), .int .i64 (r.i 5), .int .i64 (r.i 6), .int .i64 (r.i 7), .int .i64 (r.i 8), .int .i64 (r.i 9), .int .i64 (r.i 10), .int .u64 (r.i 11), .int .u64 (r.i 12)] 25 (0, 0) : Obj))
  clear HMr
  obtain ⟨BS, hM, hB⟩ : ∃ BS, ((((w1.heap.size, (.cells #[.int .i64 1, .int .i64 2, .int .i64 3, .int .i64 4] 90 (0, 0) : Obj)) : Nat × Obj) ∈ BS) ∧ (((w1.heap.size + 1, (.cells #[.int .i64 17, .int .i64 18, .int .i64 5, .int .i64 6, .int .i64 15, .int .i64 16, .int .i64 5, .int .i64 6] 91 (0, 0) : Obj)) : Nat × Obj) ∈ BS) ∧ (((w2.heap.size, (.cells #[.int .i64 (m.i 0), .int .u64 (m.i 1), .int .u64 (m.i 2), .string m.s, .int .i64 (m.i 4), .int .i64 (m.i 5), .int .i64 (m.i 6), .int .i64 (m.i 7), .int .i64 (m.i 8), .int .i64 (m.i 9), .int .i64 (m.i 10), .int .u64 (m.i 11), .int .u64 (m.i 12)] 25 (0, 0) : Obj)) : Nat × Obj) ∈ BS) ∧ (((w2.heap.size + 1, (.cells #[.int .i64 q.y.CK, .int .i64 q.y.K, .int .i64 q.y.H, .int .u64 q.y.N, .int .i64 q.e, .int .i64 q.ek, .string q.offer] 47 (0, 0) : Obj)) : Nat × Obj) ∈ BS) ∧ (((w4.heap.size, (.cells #[.int .i64 (r.i 0), .int .u64 (r.i 1), .int .u64 (r.i 2), .string r.s, .int .i64 (r.i 4), .int .i64 (r.i 5), .int .i64 (r.i 6), .int .i64 (r.i 7), .int .i64 (r.i 8), .int .i64 (r.i 9), .int .i64 (r.i 10), .int .u64 (r.i 11), .int .u64 (r.i 12)] 25 (0, 0) : Obj)) : Nat × Obj) ∈ BS)) ∧ Cs w.heap.size (PSq w.heap.size g 5000) NoS L3 [] BS w wz := ⟨_, ⟨by simp, by simp, by simp, by simp, by simp⟩, HC.out⟩
  clear HC
  have HC := Lib.hid hB
  obtain ⟨hme, hpp, hm, hq, hr⟩ := hM
  have HMme := Lib.hid hme
  have HMpp := Lib.hid hpp
  have HMm := Lib.hid hm
  have HMq := Lib.hid hq
  have HMr := Lib.hid hr
  clear hB hme hpp hm hq hr
  have HLen : Hid (∀ W, Below wz.heap.size wz W → Calls Tryz.prog 36 #[.pointer (some ⟨g, 0, none⟩)] W fun e w' => e = .returned (.int .i64 74) ∧ W = w') := Lib.hid (fun W hb => by
    refine ((HC.out.below gP gN hb).pair.lenP).mono ?_
    rintro e w' ⟨rfl, rfl⟩
    rw [S.out.len]
    exact ⟨rfl, rfl⟩)
  have HLm : Hid ((w2.heap.size) < wz.heap.size) := Lib.hid (HC.out.pair.klt (w2.heap.size) ⟨(.cells #[.int .i64 (m.i 0), .int .u64 (m.i 1), .int .u64 (m.i 2), .string m.s, .int .i64 (m.i 4), .int .i64 (m.i 5), .int .i64 (m.i 6), .int .i64 (m.i 7), .int .i64 (m.i 8), .int .i64 (m.i 9), .int .i64 (m.i 10), .int .u64 (m.i 11), .int .u64 (m.i 12)] 25 (0, 0) : Obj), HMm.out⟩)
  have HRm : Hid (wz.heap[w2.heap.size]? = some (.cells #[.int .i64 (m.i 0), .int .u64 (m.i 1), .int .u64 (m.i 2), .string m.s, .int .i64 (m.i 4), .int .i64 (m.i 5), .int .i64 (m.i 6), .int .i64 (m.i 7), .int .i64 (m.i 8), .int .i64 (m.i 9), .int .i64 (m.i 10), .int .u64 (m.i 11), .int .u64 (m.i 12)] 25 (0, 0) : Obj)) := Lib.hid (HC.out.kept (w2.heap.size) (.cells #[.int .i64 (m.i 0), .int .u64 (m.i 1), .int .u64 (m.i 2), .string m.s, .int .i64 (m.i 4), .int .i64 (m.i 5), .int .i64 (m.i 6), .int .i64 (m.i 7), .int .i64 (m.i 8), .int .i64 (m.i 9), .int .i64 (m.i 10), .int .u64 (m.i 11), .int .u64 (m.i 12)] 25 (0, 0) : Obj) HMm.out)
  have HLr : Hid ((w4.heap.size) < wz.heap.size) := Lib.hid (HC.out.pair.klt (w4.heap.size) ⟨(.cells #[.int .i64 (r.i 0), .int .u64 (r.i 1), .int .u64 (r.i 2), .string r.s, .int .i64 (r.i 4), .int .i64 (r.i 5), .int .i64 (r.i 6), .int .i64 (r.i 7), .int .i64 (r.i 8), .int .i64 (r.i 9), .int .i64 (r.i 10), .int .u64 (r.i 11), .int .u64 (r.i 12)] 25 (0, 0) : Obj), HMr.out⟩)
  have HRr : Hid (wz.heap[w4.heap.size]? = some (.cells #[.int .i64 (r.i 0), .int .u64 (r.i 1), .int .u64 (r.i 2), .string r.s, .int .i64 (r.i 4), .int .i64 (r.i 5), .int .i64 (r.i 6), .int .i64 (r.i 7), .int .i64 (r.i 8), .int .i64 (r.i 9), .int .i64 (r.i 10), .int .u64 (r.i 11), .int .u64 (r.i 12)] 25 (0, 0) : Obj)) := Lib.hid (HC.out.kept (w4.heap.size) (.cells #[.int .i64 (r.i 0), .int .u64 (r.i 1), .int .u64 (r.i 2), .string r.s, .int .i64 (r.i 4), .int .i64 (r.i 5), .int .i64 (r.i 6), .int .i64 (r.i 7), .int .i64 (r.i 8), .int .i64 (r.i 9), .int .i64 (r.i 10), .int .u64 (r.i 11), .int .u64 (r.i 12)] 25 (0, 0) : Obj) HMr.out)
  go_cut [16, 17, 18] from 73 to 173 (fun x16 x17 x18 wx => ∃ (X Y : Nat), x16 = .int .i64 k ∧ x17 = .pointer (some ⟨X, 0, none⟩) ∧ x18 = .pointer (some ⟨Y, 0, none⟩) ∧ X ≠ Y ∧ wz.heap.size ≤ X ∧ wz.heap.size ≤ Y ∧ Hid (Below wz.heap.size wz wx) ∧ Hid (wx.heap[X]? = some (.cells #[.int .i64 (m.i 0), .int .u64 (m.i 1), .int .u64 (m.i 2), .string m.s, .int .i64 (m.i 4), .int .i64 (m.i 5), .int .i64 (m.i 6), .int .i64 (m.i 7), .int .i64 (m.i 8), .int .i64 (m.i 9), .int .i64 (m.i 10), .int .u64 (m.i 11), .int .u64 (m.i 12)] 25 (0, 0) : Obj) ∧ wz.heap.size ≤ X) ∧ Hid (wx.heap[Y]? = some (.cells #[.int .i64 (r.i 0), .int .u64 (r.i 1), .int .u64 (r.i 2), .string r.s, .int .i64 (r.i 4), .int .i64 (r.i 5), .int .i64 (r.i 6), .int .i64 (r.i 7), .int .i64 (r.i 8), .int .i64 (r.i 9), .int .i64 (r.i 10), .int .u64 (r.i 11), .int .u64 (r.i 12)] 25 (0, 0) : Obj) ∧ wz.heap.size ≤ Y))
  case first =>
    refine wp_region_held_drew (S := fun W => Below wz.heap.size wz W) (by kernel_rfl) ((Below.refl _ _).drew) (fun hHeld => ?_)
    generalize wz.drew = wS at hHeld ⊢
    have HBwS := Lib.hid hHeld
    refine tk1 0 (oi := ?o1) (v := ?v1) ?i1 ?w1 ?y1 ?r1
    case' i1 => simp only [g1, g2, g3]
    case i1 => rfl
    case w1 => kernel_rfl
    case y1 => (intro W hSw; go_simp) <;> with_reducible rfl
    try simp only [Act.put, p1, p2, p3]
    refine tk1 1 (oi := ?o2) (v := ?v2) ?i2 ?w2 ?y2 ?r2
    case' i2 => simp only [g1, g2, g3]
    case i2 => rfl
    case w2 => kernel_rfl
    case y2 => (intro W hSw; go_simp) <;> with_reducible rfl
    try simp only [Act.put, p1, p2, p3]
    refine tk1 2 (oi := ?o3) (v := ?v3) ?i3 ?w3 ?y3 ?r3
    case' i3 => simp only [g1, g2, g3]
    case i3 => rfl
    case w3 => kernel_rfl
    case y3 => (intro W hSw; go_simp) <;> with_reducible rfl
    try simp only [Act.put, p1, p2, p3]
    refine tk1 6 (oi := ?o4) (v := ?v4) ?i4 ?w4 ?y4 ?r4
    case' i4 => simp only [g1, g2, g3]
    case i4 => rfl
    case w4 => kernel_rfl
    case y4 => (intro W hSw; obtain ⟨mf0, mf1, mf2, mf3, mf4, mf5, mf6, mf7, mf8, mf9, mf10, mf11, mf12⟩ := cell13s ((hSw.block (w2.heap.size) HLm.out).trans HRm.out); obtain ⟨rf0, rf1, rf2, rf3, rf4, rf5, rf6, rf7, rf8, rf9, rf10, rf11, rf12⟩ := cell13s ((hSw.block (w4.heap.size) HLr.out).trans HRr.out); go_simp) <;> with_reducible rfl
    try simp only [Act.put, p1, p2, p3]
    refine tk1 7 (oi := ?o5) (v := ?v5) ?i5 ?w5 ?y5 ?r5
    case' i5 => simp only [g1, g2, g3]
    case i5 => rfl
    case w5 => kernel_rfl
    case y5 => (intro W hSw; obtain ⟨mf0, mf1, mf2, mf3, mf4, mf5, mf6, mf7, mf8, mf9, mf10, mf11, mf12⟩ := cell13s ((hSw.block (w2.heap.size) HLm.out).trans HRm.out); obtain ⟨rf0, rf1, rf2, rf3, rf4, rf5, rf6, rf7, rf8, rf9, rf10, rf11, rf12⟩ := cell13s ((hSw.block (w4.heap.size) HLr.out).trans HRr.out); go_simp) <;> with_reducible rfl
    try simp only [Act.put, p1, p2, p3]
    refine wpAnyH_ready (rs := [3, 8, 9]) (by kernel_rfl) (by simp) ?_
    refine (AllReadyH.cons (o := ?o6_0) ?i6_0 (fun K' hK => ?g6_0) (AllReadyH.cons (o := ?o6_1) ?i6_1 (fun K' hK => ?g6_1) (AllReadyH.cons (o := ?o6_2) ?i6_2 (fun K' hK => ?g6_2) AllReadyH.nil)))
    case' i6_0 => simp only [g1, g2, g3]
    case i6_0 => rfl
    case' i6_1 => simp only [g1, g2, g3]
    case i6_1 => rfl
    case' i6_2 => simp only [g1, g2, g3]
    case i6_2 => rfl
    case g6_0 =>
      go_simp
      go_at_call 36
      refine (HLen.out _ HBwS.out).mono ?_
      rintro e w9 ⟨rfl, rfl⟩
      go_wp2_with fail
      refine hK.out _ _ (HBwS.out) (fun hHeld => ?_)
      clear hK K'
      try simp only [Act.put, p1, p2, p3]
      refine tk1 4 (oi := ?o7) (v := ?v7) ?i7 ?w7 ?y7 ?r7
      case' i7 => simp only [g1, g2, g3]
      case i7 => rfl
      case w7 => kernel_rfl
      case y7 => (intro W hSw; go_simp) <;> with_reducible rfl
      try simp only [Act.put, p1, p2, p3]
      refine tk1 5 (oi := ?o8) (v := ?v8) ?i8 ?w8 ?y8 ?r8
      case' i8 => simp only [g1, g2, g3]
      case i8 => rfl
      case w8 => kernel_rfl
      case y8 => (intro W hSw; go_simp) <;> with_reducible rfl
      try simp only [Act.put, p1, p2, p3]
      refine wpAnyH_ready (rs := [8, 9]) (by kernel_rfl) (by simp) ?_
      refine (AllReadyH.cons (o := ?o9_0) ?i9_0 (fun K' hK => ?g9_0) (AllReadyH.cons (o := ?o9_1) ?i9_1 (fun K' hK => ?g9_1) AllReadyH.nil))
      case' i9_0 => simp only [g1, g2, g3]
      case i9_0 => rfl
      case' i9_1 => simp only [g1, g2, g3]
      case i9_1 => rfl
      case g9_0 =>
        go_simp
        have HBwA1 : Hid (Below wz.heap.size wz (wS.alloc (.cells #[.int .i64 0, .int .u64 0, .int .u64 0, .string ⟨#[]⟩, .int .i64 0, .int .i64 0, .int .i64 0, .int .i64 0, .int .i64 0, .int .i64 0, .int .i64 0, .int .u64 0, .int .u64 0] 25 : Obj))) := Lib.hid (HBwS.out.alloc HBwS.out.size _)
        have HRX : Hid ((wS.alloc (.cells #[.int .i64 0, .int .u64 0, .int .u64 0, .string ⟨#[]⟩, .int .i64 0, .int .i64 0, .int .i64 0, .int .i64 0, .int .i64 0, .int .i64 0, .int .i64 0, .int .u64 0, .int .u64 0] 25 : Obj)).heap[wS.heap.size]? = some (.cells #[.int .i64 0, .int .u64 0, .int .u64 0, .string ⟨#[]⟩, .int .i64 0, .int .i64 0, .int .i64 0, .int .i64 0, .int .i64 0, .int .i64 0, .int .i64 0, .int .u64 0, .int .u64 0] 25 (0, 0) : Obj) ∧ wz.heap.size ≤ wS.heap.size) := Lib.hid ⟨heap_alloc_new wS _, HBwS.out.size⟩
        refine hK.out _ _ HBwA1.out (fun hHeld => ?_)
        clear hK K' hHeld
        try simp only [Act.put, p1, p2, p3]
        generalize (wS.alloc (.cells #[.int .i64 0, .int .u64 0, .int .u64 0, .string ⟨#[]⟩, .int .i64 0, .int .i64 0, .int .i64 0, .int .i64 0, .int .i64 0, .int .i64 0, .int .i64 0, .int .u64 0, .int .u64 0] 25 : Obj)) = wA1 at HBwA1 HRX ⊢
        generalize wS.heap.size = X at HBwA1 HRX ⊢
        have hHeld := HBwA1.out
        refine wpAnyH_ready (rs := [9]) (by kernel_rfl) (by simp) ?_
        refine (AllReadyH.cons (o := ?o10_0) ?i10_0 (fun K' hK => ?g10_0) AllReadyH.nil)
        case' i10_0 => simp only [g1, g2, g3]
        case i10_0 => rfl
        go_simp
        have HBwA2 : Hid (Below wz.heap.size wz (wA1.alloc (.cells #[.int .i64 0, .int .u64 0, .int .u64 0, .string ⟨#[]⟩, .int .i64 0, .int .i64 0, .int .i64 0, .int .i64 0, .int .i64 0, .int .i64 0, .int .i64 0, .int .u64 0, .int .u64 0] 25 : Obj))) := Lib.hid (HBwA1.out.alloc HBwA1.out.size _)
        have HRY : Hid ((wA1.alloc (.cells #[.int .i64 0, .int .u64 0, .int .u64 0, .string ⟨#[]⟩, .int .i64 0, .int .i64 0, .int .i64 0, .int .i64 0, .int .i64 0, .int .i64 0, .int .i64 0, .int .u64 0, .int .u64 0] 25 : Obj)).heap[wA1.heap.size]? = some (.cells #[.int .i64 0, .int .u64 0, .int .u64 0, .string ⟨#[]⟩, .int .i64 0, .int .i64 0, .int .i64 0, .int .i64 0, .int .i64 0, .int .i64 0, .int .i64 0, .int .u64 0, .int .u64 0] 25 (0, 0) : Obj) ∧ wz.heap.size ≤ wA1.heap.size) := Lib.hid ⟨heap_alloc_new wA1 _, HBwA1.out.size⟩
        have HNE : Hid (wA1.heap.size ≠ X) := Lib.hid (by have := lt_some HRX.out.1; omega)
        replace HRX : Hid ((wA1.alloc (.cells #[.int .i64 0, .int .u64 0, .int .u64 0, .string ⟨#[]⟩, .int .i64 0, .int .i64 0, .int .i64 0, .int .i64 0, .int .i64 0, .int .i64 0, .int .i64 0, .int .u64 0, .int .u64 0] 25 : Obj)).heap[X]? = some (.cells #[.int .i64 0, .int .u64 0, .int .u64 0, .string ⟨#[]⟩, .int .i64 0, .int .i64 0, .int .i64 0, .int .i64 0, .int .i64 0, .int .i64 0, .int .i64 0, .int .u64 0, .int .u64 0] 25 (0, 0) : Obj) ∧ wz.heap.size ≤ X) := Lib.hid ⟨((below_alloc wA1 _).block X (lt_some HRX.out.1)).trans HRX.out.1, HRX.out.2⟩
        refine hK.out _ _ HBwA2.out (fun hHeld => ?_)
        clear hK K' hHeld
        try simp only [Act.put, p1, p2, p3]
        generalize (wA1.alloc (.cells #[.int .i64 0, .int .u64 0, .int .u64 0, .string ⟨#[]⟩, .int .i64 0, .int .i64 0, .int .i64 0, .int .i64 0, .int .i64 0, .int .i64 0, .int .i64 0, .int .u64 0, .int .u64 0] 25 : Obj)) = wA2 at HBwA2 HRY HRX HNE ⊢
        generalize wA1.heap.size = Y at HBwA2 HRY HRX HNE ⊢
        have hHeld := HBwA2.out
        replace HNE := Lib.hid HNE.out.symm
        refine tk1 10 (oi := ?o11) (v := ?v11) ?i11 ?w11 ?y11 ?r11
        case' i11 => simp only [g1, g2, g3]
        case i11 => rfl
        case w11 => kernel_rfl
        case y11 => (intro W hSw; go_simp) <;> with_reducible rfl
        try simp only [Act.put, p1, p2, p3]
        refine wpAnyH_ready (rs := [11]) (by kernel_rfl) (by simp) ?_
        refine (AllReadyH.cons (o := ?o12_0) ?i12_0 (fun K' hK => ?g12_0) AllReadyH.nil)
        case' i12_0 => simp only [g1, g2, g3]
        case i12_0 => rfl
        obtain ⟨zf0, zf1, zf2, zf3, zf4, zf5, zf6, zf7, zf8, zf9, zf10, zf11, zf12⟩ := cell13s HRX.out.1
        have zz0 := thaw_of (off := 0) HRX.out.1
        have zz1 := thaw_of (off := 1) HRX.out.1
        have zz2 := thaw_of (off := 2) HRX.out.1
        have zz3 := thaw_of (off := 3) HRX.out.1
        have zz4 := thaw_of (off := 4) HRX.out.1
        have zz5 := thaw_of (off := 5) HRX.out.1
        have zz6 := thaw_of (off := 6) HRX.out.1
        have zz7 := thaw_of (off := 7) HRX.out.1
        have zz8 := thaw_of (off := 8) HRX.out.1
        have zz9 := thaw_of (off := 9) HRX.out.1
        have zz10 := thaw_of (off := 10) HRX.out.1
        have zz11 := thaw_of (off := 11) HRX.out.1
        have zz12 := thaw_of (off := 12) HRX.out.1
        go_simp
        clear zf0 zf1 zf2 zf3 zf4 zf5 zf6 zf7 zf8 zf9 zf10 zf11 zf12 zz0 zz1 zz2 zz3 zz4 zz5 zz6 zz7 zz8 zz9 zz10 zz11 zz12
        show K' _ (wA2.setCells X 0 [.int .i64 (m.i 0), .int .u64 (m.i 1), .int .u64 (m.i 2), .string m.s, .int .i64 (m.i 4), .int .i64 (m.i 5), .int .i64 (m.i 6), .int .i64 (m.i 7), .int .i64 (m.i 8), .int .i64 (m.i 9), .int .i64 (m.i 10), .int .u64 (m.i 11), .int .u64 (m.i 12)])
        have HBwTX : Hid (Below wz.heap.size wz (wA2.setCells X 0 [.int .i64 (m.i 0), .int .u64 (m.i 1), .int .u64 (m.i 2), .string m.s, .int .i64 (m.i 4), .int .i64 (m.i 5), .int .i64 (m.i 6), .int .i64 (m.i 7), .int .i64 (m.i 8), .int .i64 (m.i 9), .int .i64 (m.i 10), .int .u64 (m.i 11), .int .u64 (m.i 12)])) := Lib.hid (HBwA2.out.trans ((chg_setCells X [.int .i64 (m.i 0), .int .u64 (m.i 1), .int .u64 (m.i 2), .string m.s, .int .i64 (m.i 4), .int .i64 (m.i 5), .int .i64 (m.i 6), .int .i64 (m.i 7), .int .i64 (m.i 8), .int .i64 (m.i 9), .int .i64 (m.i 10), .int .u64 (m.i 11), .int .u64 (m.i 12)] 0 wA2).below (fun k hk => by have := HRX.out.2; omega) HBwA2.out.size))
        have HSX : Hid ((wA2.setCells X 0 [.int .i64 (m.i 0), .int .u64 (m.i 1), .int .u64 (m.i 2), .string m.s, .int .i64 (m.i 4), .int .i64 (m.i 5), .int .i64 (m.i 6), .int .i64 (m.i 7), .int .i64 (m.i 8), .int .i64 (m.i 9), .int .i64 (m.i 10), .int .u64 (m.i 11), .int .u64 (m.i 12)]).heap[X]? = some (.cells #[.int .i64 (m.i 0), .int .u64 (m.i 1), .int .u64 (m.i 2), .string m.s, .int .i64 (m.i 4), .int .i64 (m.i 5), .int .i64 (m.i 6), .int .i64 (m.i 7), .int .i64 (m.i 8), .int .i64 (m.i 9), .int .i64 (m.i 10), .int .u64 (m.i 11), .int .u64 (m.i 12)] 25 (0, 0) : Obj) ∧ wz.heap.size ≤ X) := Lib.hid ⟨row_all [.int .i64 (m.i 0), .int .u64 (m.i 1), .int .u64 (m.i 2), .string m.s, .int .i64 (m.i 4), .int .i64 (m.i 5), .int .i64 (m.i 6), .int .i64 (m.i 7), .int .i64 (m.i 8), .int .i64 (m.i 9), .int .i64 (m.i 10), .int .u64 (m.i 11), .int .u64 (m.i 12)] HRX.out.1 rfl, HRX.out.2⟩
        replace HRY : Hid ((wA2.setCells X 0 [.int .i64 (m.i 0), .int .u64 (m.i 1), .int .u64 (m.i 2), .string m.s, .int .i64 (m.i 4), .int .i64 (m.i 5), .int .i64 (m.i 6), .int .i64 (m.i 7), .int .i64 (m.i 8), .int .i64 (m.i 9), .int .i64 (m.i 10), .int .u64 (m.i 11), .int .u64 (m.i 12)]).heap[Y]? = some (.cells #[.int .i64 0, .int .u64 0, .int .u64 0, .string ⟨#[]⟩, .int .i64 0, .int .i64 0, .int .i64 0, .int .i64 0, .int .i64 0, .int .i64 0, .int .i64 0, .int .u64 0, .int .u64 0] 25 (0, 0) : Obj) ∧ wz.heap.size ≤ Y) := Lib.hid ⟨((chg_setCells X [.int .i64 (m.i 0), .int .u64 (m.i 1), .int .u64 (m.i 2), .string m.s, .int .i64 (m.i 4), .int .i64 (m.i 5), .int .i64 (m.i 6), .int .i64 (m.i 7), .int .i64 (m.i 8), .int .i64 (m.i 9), .int .i64 (m.i 10), .int .u64 (m.i 11), .int .u64 (m.i 12)] 0 wA2).block Y (lt_some HRY.out.1) (fun e => HNE.out (by omega))).trans HRY.out.1, HRY.out.2⟩
        clear HRX
        refine hK.out _ _ HBwTX.out (fun hHeld => ?_)
        clear hK K' hHeld
        try simp only [Act.put, p1, p2, p3]
        generalize (wA2.setCells X 0 [.int .i64 (m.i 0), .int .u64 (m.i 1), .int .u64 (m.i 2), .string m.s, .int .i64 (m.i 4), .int .i64 (m.i 5), .int .i64 (m.i 6), .int .i64 (m.i 7), .int .i64 (m.i 8), .int .i64 (m.i 9), .int .i64 (m.i 10), .int .u64 (m.i 11), .int .u64 (m.i 12)]) = wTX at HBwTX HSX HRY ⊢
        have hHeld := HBwTX.out
        refine wpAnyH_ready (rs := [12]) (by kernel_rfl) (by simp) ?_
        refine (AllReadyH.cons (o := ?o13_0) ?i13_0 (fun K' hK => ?g13_0) AllReadyH.nil)
        case' i13_0 => simp only [g1, g2, g3]
        case i13_0 => rfl
        obtain ⟨zf0, zf1, zf2, zf3, zf4, zf5, zf6, zf7, zf8, zf9, zf10, zf11, zf12⟩ := cell13s HRY.out.1
        have zz0 := thaw_of (off := 0) HRY.out.1
        have zz1 := thaw_of (off := 1) HRY.out.1
        have zz2 := thaw_of (off := 2) HRY.out.1
        have zz3 := thaw_of (off := 3) HRY.out.1
        have zz4 := thaw_of (off := 4) HRY.out.1
        have zz5 := thaw_of (off := 5) HRY.out.1
        have zz6 := thaw_of (off := 6) HRY.out.1
        have zz7 := thaw_of (off := 7) HRY.out.1
        have zz8 := thaw_of (off := 8) HRY.out.1
        have zz9 := thaw_of (off := 9) HRY.out.1
        have zz10 := thaw_of (off := 10) HRY.out.1
        have zz11 := thaw_of (off := 11) HRY.out.1
        have zz12 := thaw_of (off := 12) HRY.out.1
        go_simp
        clear zf0 zf1 zf2 zf3 zf4 zf5 zf6 zf7 zf8 zf9 zf10 zf11 zf12 zz0 zz1 zz2 zz3 zz4 zz5 zz6 zz7 zz8 zz9 zz10 zz11 zz12
        show K' _ (wTX.setCells Y 0 [.int .i64 (r.i 0), .int .u64 (r.i 1), .int .u64 (r.i 2), .string r.s, .int .i64 (r.i 4), .int .i64 (r.i 5), .int .i64 (r.i 6), .int .i64 (r.i 7), .int .i64 (r.i 8), .int .i64 (r.i 9), .int .i64 (r.i 10), .int .u64 (r.i 11), .int .u64 (r.i 12)])
        have HBwTY : Hid (Below wz.heap.size wz (wTX.setCells Y 0 [.int .i64 (r.i 0), .int .u64 (r.i 1), .int .u64 (r.i 2), .string r.s, .int .i64 (r.i 4), .int .i64 (r.i 5), .int .i64 (r.i 6), .int .i64 (r.i 7), .int .i64 (r.i 8), .int .i64 (r.i 9), .int .i64 (r.i 10), .int .u64 (r.i 11), .int .u64 (r.i 12)])) := Lib.hid (HBwTX.out.trans ((chg_setCells Y [.int .i64 (r.i 0), .int .u64 (r.i 1), .int .u64 (r.i 2), .string r.s, .int .i64 (r.i 4), .int .i64 (r.i 5), .int .i64 (r.i 6), .int .i64 (r.i 7), .int .i64 (r.i 8), .int .i64 (r.i 9), .int .i64 (r.i 10), .int .u64 (r.i 11), .int .u64 (r.i 12)] 0 wTX).below (fun k hk => by have := HRY.out.2; omega) HBwTX.out.size))
        have HSY : Hid ((wTX.setCells Y 0 [.int .i64 (r.i 0), .int .u64 (r.i 1), .int .u64 (r.i 2), .string r.s, .int .i64 (r.i 4), .int .i64 (r.i 5), .int .i64 (r.i 6), .int .i64 (r.i 7), .int .i64 (r.i 8), .int .i64 (r.i 9), .int .i64 (r.i 10), .int .u64 (r.i 11), .int .u64 (r.i 12)]).heap[Y]? = some (.cells #[.int .i64 (r.i 0), .int .u64 (r.i 1), .int .u64 (r.i 2), .string r.s, .int .i64 (r.i 4), .int .i64 (r.i 5), .int .i64 (r.i 6), .int .i64 (r.i 7), .int .i64 (r.i 8), .int .i64 (r.i 9), .int .i64 (r.i 10), .int .u64 (r.i 11), .int .u64 (r.i 12)] 25 (0, 0) : Obj) ∧ wz.heap.size ≤ Y) := Lib.hid ⟨row_all [.int .i64 (r.i 0), .int .u64 (r.i 1), .int .u64 (r.i 2), .string r.s, .int .i64 (r.i 4), .int .i64 (r.i 5), .int .i64 (r.i 6), .int .i64 (r.i 7), .int .i64 (r.i 8), .int .i64 (r.i 9), .int .i64 (r.i 10), .int .u64 (r.i 11), .int .u64 (r.i 12)] HRY.out.1 rfl, HRY.out.2⟩
        replace HSX : Hid ((wTX.setCells Y 0 [.int .i64 (r.i 0), .int .u64 (r.i 1), .int .u64 (r.i 2), .string r.s, .int .i64 (r.i 4), .int .i64 (r.i 5), .int .i64 (r.i 6), .int .i64 (r.i 7), .int .i64 (r.i 8), .int .i64 (r.i 9), .int .i64 (r.i 10), .int .u64 (r.i 11), .int .u64 (r.i 12)]).heap[X]? = some (.cells #[.int .i64 (m.i 0), .int .u64 (m.i 1), .int .u64 (m.i 2), .string m.s, .int .i64 (m.i 4), .int .i64 (m.i 5), .int .i64 (m.i 6), .int .i64 (m.i 7), .int .i64 (m.i 8), .int .i64 (m.i 9), .int .i64 (m.i 10), .int .u64 (m.i 11), .int .u64 (m.i 12)] 25 (0, 0) : Obj) ∧ wz.heap.size ≤ X) := Lib.hid ⟨((chg_setCells Y [.int .i64 (r.i 0), .int .u64 (r.i 1), .int .u64 (r.i 2), .string r.s, .int .i64 (r.i 4), .int .i64 (r.i 5), .int .i64 (r.i 6), .int .i64 (r.i 7), .int .i64 (r.i 8), .int .i64 (r.i 9), .int .i64 (r.i 10), .int .u64 (r.i 11), .int .u64 (r.i 12)] 0 wTX).block X (lt_some HSX.out.1) (fun e => HNE.out (by omega))).trans HSX.out.1, HSX.out.2⟩
        clear HRY
        refine hK.out _ _ HBwTY.out (fun hHeld => ?_)
        clear hK K' hHeld
        try simp only [Act.put, p1, p2, p3]
        generalize (wTX.setCells Y 0 [.int .i64 (r.i 0), .int .u64 (r.i 1), .int .u64 (r.i 2), .string r.s, .int .i64 (r.i 4), .int .i64 (r.i 5), .int .i64 (r.i 6), .int .i64 (r.i 7), .int .i64 (r.i 8), .int .i64 (r.i 9), .int .i64 (r.i 10), .int .u64 (r.i 11), .int .u64 (r.i 12)]) = wTY at HBwTY HSY HSX ⊢
        have hHeld := HBwTY.out
        refine wpAnyH_done (by kernel_rfl) ?_ _
        go_wp2_with fail
        go_meet
        exact ⟨X, Y, congrArg (Value.int IntKind.i64) eI.out, rfl, rfl, HNE.out, HSX.out.2, HSY.out.2, HBwTY, HSX, HSY⟩
      case g9_1 =>
        go_simp
        have HBwA1 : Hid (Below wz.heap.size wz (wS.alloc (.cells #[.int .i64 0, .int .u64 0, .int .u64 0, .string ⟨#[]⟩, .int .i64 0, .int .i64 0, .int .i64 0, .int .i64 0, .int .i64 0, .int .i64 0, .int .i64 0, .int .u64 0, .int .u64 0] 25 : Obj))) := Lib.hid (HBwS.out.alloc HBwS.out.size _)
        have HRY : Hid ((wS.alloc (.cells #[.int .i64 0, .int .u64 0, .int .u64 0, .string ⟨#[]⟩, .int .i64 0, .int .i64 0, .int .i64 0, .int .i64 0, .int .i64 0, .int .i64 0, .int .i64 0, .int .u64 0, .int .u64 0] 25 : Obj)).heap[wS.heap.size]? = some (.cells #[.int .i64 0, .int .u64 0, .int .u64 0, .string ⟨#[]⟩, .int .i64 0, .int .i64 0, .int .i64 0, .int .i64 0, .int .i64 0, .int .i64 0, .int .i64 0, .int .u64 0, .int .u64 0] 25 (0, 0) : Obj) ∧ wz.heap.size ≤ wS.heap.size) := Lib.hid ⟨heap_alloc_new wS _, HBwS.out.size⟩
        refine hK.out _ _ HBwA1.out (fun hHeld => ?_)
        clear hK K' hHeld
        try simp only [Act.put, p1, p2, p3]
        generalize (wS.alloc (.cells #[.int .i64 0, .int .u64 0, .int .u64 0, .string ⟨#[]⟩, .int .i64 0, .int .i64 0, .int .i64 0, .int .i64 0, .int .i64 0, .int .i64 0, .int .i64 0, .int .u64 0, .int .u64 0] 25 : Obj)) = wA1 at HBwA1 HRY ⊢
        generalize wS.heap.size = Y at HBwA1 HRY ⊢
        have hHeld := HBwA1.out
        refine wpAnyH_ready (rs := [8]) (by kernel_rfl) (by simp) ?_
        refine (AllReadyH.cons (o := ?o14_0) ?i14_0 (fun K' hK => ?g14_0) AllReadyH.nil)
        case' i14_0 => simp only [g1, g2, g3]
        case i14_0 => rfl
        go_simp
        have HBwA2 : Hid (Below wz.heap.size wz (wA1.alloc (.cells #[.int .i64 0, .int .u64 0, .int .u64 0, .string ⟨#[]⟩, .int .i64 0, .int .i64 0, .int .i64 0, .int .i64 0, .int .i64 0, .int .i64 0, .int .i64 0, .int .u64 0, .int .u64 0] 25 : Obj))) := Lib.hid (HBwA1.out.alloc HBwA1.out.size _)
        have HRX : Hid ((wA1.alloc (.cells #[.int .i64 0, .int .u64 0, .int .u64 0, .string ⟨#[]⟩, .int .i64 0, .int .i64 0, .int .i64 0, .int .i64 0, .int .i64 0, .int .i64 0, .int .i64 0, .int .u64 0, .int .u64 0] 25 : Obj)).heap[wA1.heap.size]? = some (.cells #[.int .i64 0, .int .u64 0, .int .u64 0, .string ⟨#[]⟩, .int .i64 0, .int .i64 0, .int .i64 0, .int .i64 0, .int .i64 0, .int .i64 0, .int .i64 0, .int .u64 0, .int .u64 0] 25 (0, 0) : Obj) ∧ wz.heap.size ≤ wA1.heap.size) := Lib.hid ⟨heap_alloc_new wA1 _, HBwA1.out.size⟩
        have HNE : Hid (wA1.heap.size ≠ Y) := Lib.hid (by have := lt_some HRY.out.1; omega)
        replace HRY : Hid ((wA1.alloc (.cells #[.int .i64 0, .int .u64 0, .int .u64 0, .string ⟨#[]⟩, .int .i64 0, .int .i64 0, .int .i64 0, .int .i64 0, .int .i64 0, .int .i64 0, .int .i64 0, .int .u64 0, .int .u64 0] 25 : Obj)).heap[Y]? = some (.cells #[.int .i64 0, .int .u64 0, .int .u64 0, .string ⟨#[]⟩, .int .i64 0, .int .i64 0, .int .i64 0, .int .i64 0, .int .i64 0, .int .i64 0, .int .i64 0, .int .u64 0, .int .u64 0] 25 (0, 0) : Obj) ∧ wz.heap.size ≤ Y) := Lib.hid ⟨((below_alloc wA1 _).block Y (lt_some HRY.out.1)).trans HRY.out.1, HRY.out.2⟩
        refine hK.out _ _ HBwA2.out (fun hHeld => ?_)
        clear hK K' hHeld
        try simp only [Act.put, p1, p2, p3]
        generalize (wA1.alloc (.cells #[.int .i64 0, .int .u64 0, .int .u64 0, .string ⟨#[]⟩, .int .i64 0, .int .i64 0, .int .i64 0, .int .i64 0, .int .i64 0, .int .i64 0, .int .i64 0, .int .u64 0, .int .u64 0] 25 : Obj)) = wA2 at HBwA2 HRX HRY HNE ⊢
        generalize wA1.heap.size = X at HBwA2 HRX HRY HNE ⊢
        have hHeld := HBwA2.out
        refine tk1 10 (oi := ?o15) (v := ?v15) ?i15 ?w15 ?y15 ?r15
        case' i15 => simp only [g1, g2, g3]
        case i15 => rfl
        case w15 => kernel_rfl
        case y15 => (intro W hSw; go_simp) <;> with_reducible rfl
        try simp only [Act.put, p1, p2, p3]
        refine wpAnyH_ready (rs := [11]) (by kernel_rfl) (by simp) ?_
        refine (AllReadyH.cons (o := ?o16_0) ?i16_0 (fun K' hK => ?g16_0) AllReadyH.nil)
        case' i16_0 => simp only [g1, g2, g3]
        case i16_0 => rfl
        obtain ⟨zf0, zf1, zf2, zf3, zf4, zf5, zf6, zf7, zf8, zf9, zf10, zf11, zf12⟩ := cell13s HRX.out.1
        have zz0 := thaw_of (off := 0) HRX.out.1
        have zz1 := thaw_of (off := 1) HRX.out.1
        have zz2 := thaw_of (off := 2) HRX.out.1
        have zz3 := thaw_of (off := 3) HRX.out.1
        have zz4 := thaw_of (off := 4) HRX.out.1
        have zz5 := thaw_of (off := 5) HRX.out.1
        have zz6 := thaw_of (off := 6) HRX.out.1
        have zz7 := thaw_of (off := 7) HRX.out.1
        have zz8 := thaw_of (off := 8) HRX.out.1
        have zz9 := thaw_of (off := 9) HRX.out.1
        have zz10 := thaw_of (off := 10) HRX.out.1
        have zz11 := thaw_of (off := 11) HRX.out.1
        have zz12 := thaw_of (off := 12) HRX.out.1
        go_simp
        clear zf0 zf1 zf2 zf3 zf4 zf5 zf6 zf7 zf8 zf9 zf10 zf11 zf12 zz0 zz1 zz2 zz3 zz4 zz5 zz6 zz7 zz8 zz9 zz10 zz11 zz12
        show K' _ (wA2.setCells X 0 [.int .i64 (m.i 0), .int .u64 (m.i 1), .int .u64 (m.i 2), .string m.s, .int .i64 (m.i 4), .int .i64 (m.i 5), .int .i64 (m.i 6), .int .i64 (m.i 7), .int .i64 (m.i 8), .int .i64 (m.i 9), .int .i64 (m.i 10), .int .u64 (m.i 11), .int .u64 (m.i 12)])
        have HBwTX : Hid (Below wz.heap.size wz (wA2.setCells X 0 [.int .i64 (m.i 0), .int .u64 (m.i 1), .int .u64 (m.i 2), .string m.s, .int .i64 (m.i 4), .int .i64 (m.i 5), .int .i64 (m.i 6), .int .i64 (m.i 7), .int .i64 (m.i 8), .int .i64 (m.i 9), .int .i64 (m.i 10), .int .u64 (m.i 11), .int .u64 (m.i 12)])) := Lib.hid (HBwA2.out.trans ((chg_setCells X [.int .i64 (m.i 0), .int .u64 (m.i 1), .int .u64 (m.i 2), .string m.s, .int .i64 (m.i 4), .int .i64 (m.i 5), .int .i64 (m.i 6), .int .i64 (m.i 7), .int .i64 (m.i 8), .int .i64 (m.i 9), .int .i64 (m.i 10), .int .u64 (m.i 11), .int .u64 (m.i 12)] 0 wA2).below (fun k hk => by have := HRX.out.2; omega) HBwA2.out.size))
        have HSX : Hid ((wA2.setCells X 0 [.int .i64 (m.i 0), .int .u64 (m.i 1), .int .u64 (m.i 2), .string m.s, .int .i64 (m.i 4), .int .i64 (m.i 5), .int .i64 (m.i 6), .int .i64 (m.i 7), .int .i64 (m.i 8), .int .i64 (m.i 9), .int .i64 (m.i 10), .int .u64 (m.i 11), .int .u64 (m.i 12)]).heap[X]? = some (.cells #[.int .i64 (m.i 0), .int .u64 (m.i 1), .int .u64 (m.i 2), .string m.s, .int .i64 (m.i 4), .int .i64 (m.i 5), .int .i64 (m.i 6), .int .i64 (m.i 7), .int .i64 (m.i 8), .int .i64 (m.i 9), .int .i64 (m.i 10), .int .u64 (m.i 11), .int .u64 (m.i 12)] 25 (0, 0) : Obj) ∧ wz.heap.size ≤ X) := Lib.hid ⟨row_all [.int .i64 (m.i 0), .int .u64 (m.i 1), .int .u64 (m.i 2), .string m.s, .int .i64 (m.i 4), .int .i64 (m.i 5), .int .i64 (m.i 6), .int .i64 (m.i 7), .int .i64 (m.i 8), .int .i64 (m.i 9), .int .i64 (m.i 10), .int .u64 (m.i 11), .int .u64 (m.i 12)] HRX.out.1 rfl, HRX.out.2⟩
        replace HRY : Hid ((wA2.setCells X 0 [.int .i64 (m.i 0), .int .u64 (m.i 1), .int .u64 (m.i 2), .string m.s, .int .i64 (m.i 4), .int .i64 (m.i 5), .int .i64 (m.i 6), .int .i64 (m.i 7), .int .i64 (m.i 8), .int .i64 (m.i 9), .int .i64 (m.i 10), .int .u64 (m.i 11), .int .u64 (m.i 12)]).heap[Y]? = some (.cells #[.int .i64 0, .int .u64 0, .int .u64 0, .string ⟨#[]⟩, .int .i64 0, .int .i64 0, .int .i64 0, .int .i64 0, .int .i64 0, .int .i64 0, .int .i64 0, .int .u64 0, .int .u64 0] 25 (0, 0) : Obj) ∧ wz.heap.size ≤ Y) := Lib.hid ⟨((chg_setCells X [.int .i64 (m.i 0), .int .u64 (m.i 1), .int .u64 (m.i 2), .string m.s, .int .i64 (m.i 4), .int .i64 (m.i 5), .int .i64 (m.i 6), .int .i64 (m.i 7), .int .i64 (m.i 8), .int .i64 (m.i 9), .int .i64 (m.i 10), .int .u64 (m.i 11), .int .u64 (m.i 12)] 0 wA2).block Y (lt_some HRY.out.1) (fun e => HNE.out (by omega))).trans HRY.out.1, HRY.out.2⟩
        clear HRX
        refine hK.out _ _ HBwTX.out (fun hHeld => ?_)
        clear hK K' hHeld
        try simp only [Act.put, p1, p2, p3]
        generalize (wA2.setCells X 0 [.int .i64 (m.i 0), .int .u64 (m.i 1), .int .u64 (m.i 2), .string m.s, .int .i64 (m.i 4), .int .i64 (m.i 5), .int .i64 (m.i 6), .int .i64 (m.i 7), .int .i64 (m.i 8), .int .i64 (m.i 9), .int .i64 (m.i 10), .int .u64 (m.i 11), .int .u64 (m.i 12)]) = wTX at HBwTX HSX HRY ⊢
        have hHeld := HBwTX.out
        refine wpAnyH_ready (rs := [12]) (by kernel_rfl) (by simp) ?_
        refine (AllReadyH.cons (o := ?o17_0) ?i17_0 (fun K' hK => ?g17_0) AllReadyH.nil)
        case' i17_0 => simp only [g1, g2, g3]
        case i17_0 => rfl
        obtain ⟨zf0, zf1, zf2, zf3, zf4, zf5, zf6, zf7, zf8, zf9, zf10, zf11, zf12⟩ := cell13s HRY.out.1
        have zz0 := thaw_of (off := 0) HRY.out.1
        have zz1 := thaw_of (off := 1) HRY.out.1
        have zz2 := thaw_of (off := 2) HRY.out.1
        have zz3 := thaw_of (off := 3) HRY.out.1
        have zz4 := thaw_of (off := 4) HRY.out.1
        have zz5 := thaw_of (off := 5) HRY.out.1
        have zz6 := thaw_of (off := 6) HRY.out.1
        have zz7 := thaw_of (off := 7) HRY.out.1
        have zz8 := thaw_of (off := 8) HRY.out.1
        have zz9 := thaw_of (off := 9) HRY.out.1
        have zz10 := thaw_of (off := 10) HRY.out.1
        have zz11 := thaw_of (off := 11) HRY.out.1
        have zz12 := thaw_of (off := 12) HRY.out.1
        go_simp
        clear zf0 zf1 zf2 zf3 zf4 zf5 zf6 zf7 zf8 zf9 zf10 zf11 zf12 zz0 zz1 zz2 zz3 zz4 zz5 zz6 zz7 zz8 zz9 zz10 zz11 zz12
        show K' _ (wTX.setCells Y 0 [.int .i64 (r.i 0), .int .u64 (r.i 1), .int .u64 (r.i 2), .string r.s, .int .i64 (r.i 4), .int .i64 (r.i 5), .int .i64 (r.i 6), .int .i64 (r.i 7), .int .i64 (r.i 8), .int .i64 (r.i 9), .int .i64 (r.i 10), .int .u64 (r.i 11), .int .u64 (r.i 12)])
        have HBwTY : Hid (Below wz.heap.size wz (wTX.setCells Y 0 [.int .i64 (r.i 0), .int .u64 (r.i 1), .int .u64 (r.i 2), .string r.s, .int .i64 (r.i 4), .int .i64 (r.i 5), .int .i64 (r.i 6), .int .i64 (r.i 7), .int .i64 (r.i 8), .int .i64 (r.i 9), .int .i64 (r.i 10), .int .u64 (r.i 11), .int .u64 (r.i 12)])) := Lib.hid (HBwTX.out.trans ((chg_setCells Y [.int .i64 (r.i 0), .int .u64 (r.i 1), .int .u64 (r.i 2), .string r.s, .int .i64 (r.i 4), .int .i64 (r.i 5), .int .i64 (r.i 6), .int .i64 (r.i 7), .int .i64 (r.i 8), .int .i64 (r.i 9), .int .i64 (r.i 10), .int .u64 (r.i 11), .int .u64 (r.i 12)] 0 wTX).below (fun k hk => by have := HRY.out.2; omega) HBwTX.out.size))
        have HSY : Hid ((wTX.setCells Y 0 [.int .i64 (r.i 0), .int .u64 (r.i 1), .int .u64 (r.i 2), .string r.s, .int .i64 (r.i 4), .int .i64 (r.i 5), .int .i64 (r.i 6), .int .i64 (r.i 7), .int .i64 (r.i 8), .int .i64 (r.i 9), .int .i64 (r.i 10), .int .u64 (r.i 11), .int .u64 (r.i 12)]).heap[Y]? = some (.cells #[.int .i64 (r.i 0), .int .u64 (r.i 1), .int .u64 (r.i 2), .string r.s, .int .i64 (r.i 4), .int .i64 (r.i 5), .int .i64 (r.i 6), .int .i64 (r.i 7), .int .i64 (r.i 8), .int .i64 (r.i 9), .int .i64 (r.i 10), .int .u64 (r.i 11), .int .u64 (r.i 12)] 25 (0, 0) : Obj) ∧ wz.heap.size ≤ Y) := Lib.hid ⟨row_all [.int .i64 (r.i 0), .int .u64 (r.i 1), .int .u64 (r.i 2), .string r.s, .int .i64 (r.i 4), .int .i64 (r.i 5), .int .i64 (r.i 6), .int .i64 (r.i 7), .int .i64 (r.i 8), .int .i64 (r.i 9), .int .i64 (r.i 10), .int .u64 (r.i 11), .int .u64 (r.i 12)] HRY.out.1 rfl, HRY.out.2⟩
        replace HSX : Hid ((wTX.setCells Y 0 [.int .i64 (r.i 0), .int .u64 (r.i 1), .int .u64 (r.i 2), .string r.s, .int .i64 (r.i 4), .int .i64 (r.i 5), .int .i64 (r.i 6), .int .i64 (r.i 7), .int .i64 (r.i 8), .int .i64 (r.i 9), .int .i64 (r.i 10), .int .u64 (r.i 11), .int .u64 (r.i 12)]).heap[X]? = some (.cells #[.int .i64 (m.i 0), .int .u64 (m.i 1), .int .u64 (m.i 2), .string m.s, .int .i64 (m.i 4), .int .i64 (m.i 5), .int .i64 (m.i 6), .int .i64 (m.i 7), .int .i64 (m.i 8), .int .i64 (m.i 9), .int .i64 (m.i 10), .int .u64 (m.i 11), .int .u64 (m.i 12)] 25 (0, 0) : Obj) ∧ wz.heap.size ≤ X) := Lib.hid ⟨((chg_setCells Y [.int .i64 (r.i 0), .int .u64 (r.i 1), .int .u64 (r.i 2), .string r.s, .int .i64 (r.i 4), .int .i64 (r.i 5), .int .i64 (r.i 6), .int .i64 (r.i 7), .int .i64 (r.i 8), .int .i64 (r.i 9), .int .i64 (r.i 10), .int .u64 (r.i 11), .int .u64 (r.i 12)] 0 wTX).block X (lt_some HSX.out.1) (fun e => HNE.out (by omega))).trans HSX.out.1, HSX.out.2⟩
        clear HRY
        refine hK.out _ _ HBwTY.out (fun hHeld => ?_)
        clear hK K' hHeld
        try simp only [Act.put, p1, p2, p3]
        generalize (wTX.setCells Y 0 [.int .i64 (r.i 0), .int .u64 (r.i 1), .int .u64 (r.i 2), .string r.s, .int .i64 (r.i 4), .int .i64 (r.i 5), .int .i64 (r.i 6), .int .i64 (r.i 7), .int .i64 (r.i 8), .int .i64 (r.i 9), .int .i64 (r.i 10), .int .u64 (r.i 11), .int .u64 (r.i 12)]) = wTY at HBwTY HSY HSX ⊢
        have hHeld := HBwTY.out
        refine wpAnyH_done (by kernel_rfl) ?_ _
        go_wp2_with fail
        go_meet
        exact ⟨X, Y, congrArg (Value.int IntKind.i64) eI.out, rfl, rfl, HNE.out, HSX.out.2, HSY.out.2, HBwTY, HSX, HSY⟩
    case g6_1 =>
      go_simp
      have HBwA1 : Hid (Below wz.heap.size wz (wS.alloc (.cells #[.int .i64 0, .int .u64 0, .int .u64 0, .string ⟨#[]⟩, .int .i64 0, .int .i64 0, .int .i64 0, .int .i64 0, .int .i64 0, .int .i64 0, .int .i64 0, .int .u64 0, .int .u64 0] 25 : Obj))) := Lib.hid (HBwS.out.alloc HBwS.out.size _)
      have HRX : Hid ((wS.alloc (.cells #[.int .i64 0, .int .u64 0, .int .u64 0, .string ⟨#[]⟩, .int .i64 0, .int .i64 0, .int .i64 0, .int .i64 0, .int .i64 0, .int .i64 0, .int .i64 0, .int .u64 0, .int .u64 0] 25 : Obj)).heap[wS.heap.size]? = some (.cells #[.int .i64 0, .int .u64 0, .int .u64 0, .string ⟨#[]⟩, .int .i64 0, .int .i64 0, .int .i64 0, .int .i64 0, .int .i64 0, .int .i64 0, .int .i64 0, .int .u64 0, .int .u64 0] 25 (0, 0) : Obj) ∧ wz.heap.size ≤ wS.heap.size) := Lib.hid ⟨heap_alloc_new wS _, HBwS.out.size⟩
      refine hK.out _ _ HBwA1.out (fun hHeld => ?_)
      clear hK K' hHeld
      try simp only [Act.put, p1, p2, p3]
      generalize (wS.alloc (.cells #[.int .i64 0, .int .u64 0, .int .u64 0, .string ⟨#[]⟩, .int .i64 0, .int .i64 0, .int .i64 0, .int .i64 0, .int .i64 0, .int .i64 0, .int .i64 0, .int .u64 0, .int .u64 0] 25 : Obj)) = wA1 at HBwA1 HRX ⊢
      generalize wS.heap.size = X at HBwA1 HRX ⊢
      have hHeld := HBwA1.out
      refine wpAnyH_ready (rs := [3, 9]) (by kernel_rfl) (by simp) ?_
      refine (AllReadyH.cons (o := ?o18_0) ?i18_0 (fun K' hK => ?g18_0) (AllReadyH.cons (o := ?o18_1) ?i18_1 (fun K' hK => ?g18_1) AllReadyH.nil))
      case' i18_0 => simp only [g1, g2, g3]
      case i18_0 => rfl
      case' i18_1 => simp only [g1, g2, g3]
      case i18_1 => rfl
      case g18_0 =>
        go_simp
        go_at_call 36
        refine (HLen.out _ HBwA1.out).mono ?_
        rintro e w9 ⟨rfl, rfl⟩
        go_wp2_with fail
        refine hK.out _ _ (HBwA1.out) (fun hHeld => ?_)
        clear hK K'
        try simp only [Act.put, p1, p2, p3]
        refine tk1 4 (oi := ?o19) (v := ?v19) ?i19 ?w19 ?y19 ?r19
        case' i19 => simp only [g1, g2, g3]
        case i19 => rfl
        case w19 => kernel_rfl
        case y19 => (intro W hSw; go_simp) <;> with_reducible rfl
        try simp only [Act.put, p1, p2, p3]
        refine tk1 5 (oi := ?o20) (v := ?v20) ?i20 ?w20 ?y20 ?r20
        case' i20 => simp only [g1, g2, g3]
        case i20 => rfl
        case w20 => kernel_rfl
        case y20 => (intro W hSw; go_simp) <;> with_reducible rfl
        try simp only [Act.put, p1, p2, p3]
        refine wpAnyH_ready (rs := [9]) (by kernel_rfl) (by simp) ?_
        refine (AllReadyH.cons (o := ?o21_0) ?i21_0 (fun K' hK => ?g21_0) AllReadyH.nil)
        case' i21_0 => simp only [g1, g2, g3]
        case i21_0 => rfl
        go_simp
        have HBwA2 : Hid (Below wz.heap.size wz (wA1.alloc (.cells #[.int .i64 0, .int .u64 0, .int .u64 0, .string ⟨#[]⟩, .int .i64 0, .int .i64 0, .int .i64 0, .int .i64 0, .int .i64 0, .int .i64 0, .int .i64 0, .int .u64 0, .int .u64 0] 25 : Obj))) := Lib.hid (HBwA1.out.alloc HBwA1.out.size _)
        have HRY : Hid ((wA1.alloc (.cells #[.int .i64 0, .int .u64 0, .int .u64 0, .string ⟨#[]⟩, .int .i64 0, .int .i64 0, .int .i64 0, .int .i64 0, .int .i64 0, .int .i64 0, .int .i64 0, .int .u64 0, .int .u64 0] 25 : Obj)).heap[wA1.heap.size]? = some (.cells #[.int .i64 0, .int .u64 0, .int .u64 0, .string ⟨#[]⟩, .int .i64 0, .int .i64 0, .int .i64 0, .int .i64 0, .int .i64 0, .int .i64 0, .int .i64 0, .int .u64 0, .int .u64 0] 25 (0, 0) : Obj) ∧ wz.heap.size ≤ wA1.heap.size) := Lib.hid ⟨heap_alloc_new wA1 _, HBwA1.out.size⟩
        have HNE : Hid (wA1.heap.size ≠ X) := Lib.hid (by have := lt_some HRX.out.1; omega)
        replace HRX : Hid ((wA1.alloc (.cells #[.int .i64 0, .int .u64 0, .int .u64 0, .string ⟨#[]⟩, .int .i64 0, .int .i64 0, .int .i64 0, .int .i64 0, .int .i64 0, .int .i64 0, .int .i64 0, .int .u64 0, .int .u64 0] 25 : Obj)).heap[X]? = some (.cells #[.int .i64 0, .int .u64 0, .int .u64 0, .string ⟨#[]⟩, .int .i64 0, .int .i64 0, .int .i64 0, .int .i64 0, .int .i64 0, .int .i64 0, .int .i64 0, .int .u64 0, .int .u64 0] 25 (0, 0) : Obj) ∧ wz.heap.size ≤ X) := Lib.hid ⟨((below_alloc wA1 _).block X (lt_some HRX.out.1)).trans HRX.out.1, HRX.out.2⟩
        refine hK.out _ _ HBwA2.out (fun hHeld => ?_)
        clear hK K' hHeld
        try simp only [Act.put, p1, p2, p3]
        generalize (wA1.alloc (.cells #[.int .i64 0, .int .u64 0, .int .u64 0, .string ⟨#[]⟩, .int .i64 0, .int .i64 0, .int .i64 0, .int .i64 0, .int .i64 0, .int .i64 0, .int .i64 0, .int .u64 0, .int .u64 0] 25 : Obj)) = wA2 at HBwA2 HRY HRX HNE ⊢
        generalize wA1.heap.size = Y at HBwA2 HRY HRX HNE ⊢
        have hHeld := HBwA2.out
        replace HNE := Lib.hid HNE.out.symm
        refine tk1 10 (oi := ?o22) (v := ?v22) ?i22 ?w22 ?y22 ?r22
        case' i22 => simp only [g1, g2, g3]
        case i22 => rfl
        case w22 => kernel_rfl
        case y22 => (intro W hSw; go_simp) <;> with_reducible rfl
        try simp only [Act.put, p1, p2, p3]
        refine wpAnyH_ready (rs := [11]) (by kernel_rfl) (by simp) ?_
        refine (AllReadyH.cons (o := ?o23_0) ?i23_0 (fun K' hK => ?g23_0) AllReadyH.nil)
        case' i23_0 => simp only [g1, g2, g3]
        case i23_0 => rfl
        obtain ⟨zf0, zf1, zf2, zf3, zf4, zf5, zf6, zf7, zf8, zf9, zf10, zf11, zf12⟩ := cell13s HRX.out.1
        have zz0 := thaw_of (off := 0) HRX.out.1
        have zz1 := thaw_of (off := 1) HRX.out.1
        have zz2 := thaw_of (off := 2) HRX.out.1
        have zz3 := thaw_of (off := 3) HRX.out.1
        have zz4 := thaw_of (off := 4) HRX.out.1
        have zz5 := thaw_of (off := 5) HRX.out.1
        have zz6 := thaw_of (off := 6) HRX.out.1
        have zz7 := thaw_of (off := 7) HRX.out.1
        have zz8 := thaw_of (off := 8) HRX.out.1
        have zz9 := thaw_of (off := 9) HRX.out.1
        have zz10 := thaw_of (off := 10) HRX.out.1
        have zz11 := thaw_of (off := 11) HRX.out.1
        have zz12 := thaw_of (off := 12) HRX.out.1
        go_simp
        clear zf0 zf1 zf2 zf3 zf4 zf5 zf6 zf7 zf8 zf9 zf10 zf11 zf12 zz0 zz1 zz2 zz3 zz4 zz5 zz6 zz7 zz8 zz9 zz10 zz11 zz12
        show K' _ (wA2.setCells X 0 [.int .i64 (m.i 0), .int .u64 (m.i 1), .int .u64 (m.i 2), .string m.s, .int .i64 (m.i 4), .int .i64 (m.i 5), .int .i64 (m.i 6), .int .i64 (m.i 7), .int .i64 (m.i 8), .int .i64 (m.i 9), .int .i64 (m.i 10), .int .u64 (m.i 11), .int .u64 (m.i 12)])
        have HBwTX : Hid (Below wz.heap.size wz (wA2.setCells X 0 [.int .i64 (m.i 0), .int .u64 (m.i 1), .int .u64 (m.i 2), .string m.s, .int .i64 (m.i 4), .int .i64 (m.i 5), .int .i64 (m.i 6), .int .i64 (m.i 7), .int .i64 (m.i 8), .int .i64 (m.i 9), .int .i64 (m.i 10), .int .u64 (m.i 11), .int .u64 (m.i 12)])) := Lib.hid (HBwA2.out.trans ((chg_setCells X [.int .i64 (m.i 0), .int .u64 (m.i 1), .int .u64 (m.i 2), .string m.s, .int .i64 (m.i 4), .int .i64 (m.i 5), .int .i64 (m.i 6), .int .i64 (m.i 7), .int .i64 (m.i 8), .int .i64 (m.i 9), .int .i64 (m.i 10), .int .u64 (m.i 11), .int .u64 (m.i 12)] 0 wA2).below (fun k hk => by have := HRX.out.2; omega) HBwA2.out.size))
        have HSX : Hid ((wA2.setCells X 0 [.int .i64 (m.i 0), .int .u64 (m.i 1), .int .u64 (m.i 2), .string m.s, .int .i64 (m.i 4), .int .i64 (m.i 5), .int .i64 (m.i 6), .int .i64 (m.i 7), .int .i64 (m.i 8), .int .i64 (m.i 9), .int .i64 (m.i 10), .int .u64 (m.i 11), .int .u64 (m.i 12)]).heap[X]? = some (.cells #[.int .i64 (m.i 0), .int .u64 (m.i 1), .int .u64 (m.i 2), .string m.s, .int .i64 (m.i 4), .int .i64 (m.i 5), .int .i64 (m.i 6), .int .i64 (m.i 7), .int .i64 (m.i 8), .int .i64 (m.i 9), .int .i64 (m.i 10), .int .u64 (m.i 11), .int .u64 (m.i 12)] 25 (0, 0) : Obj) ∧ wz.heap.size ≤ X) := Lib.hid ⟨row_all [.int .i64 (m.i 0), .int .u64 (m.i 1), .int .u64 (m.i 2), .string m.s, .int .i64 (m.i 4), .int .i64 (m.i 5), .int .i64 (m.i 6), .int .i64 (m.i 7), .int .i64 (m.i 8), .int .i64 (m.i 9), .int .i64 (m.i 10), .int .u64 (m.i 11), .int .u64 (m.i 12)] HRX.out.1 rfl, HRX.out.2⟩
        replace HRY : Hid ((wA2.setCells X 0 [.int .i64 (m.i 0), .int .u64 (m.i 1), .int .u64 (m.i 2), .string m.s, .int .i64 (m.i 4), .int .i64 (m.i 5), .int .i64 (m.i 6), .int .i64 (m.i 7), .int .i64 (m.i 8), .int .i64 (m.i 9), .int .i64 (m.i 10), .int .u64 (m.i 11), .int .u64 (m.i 12)]).heap[Y]? = some (.cells #[.int .i64 0, .int .u64 0, .int .u64 0, .string ⟨#[]⟩, .int .i64 0, .int .i64 0, .int .i64 0, .int .i64 0, .int .i64 0, .int .i64 0, .int .i64 0, .int .u64 0, .int .u64 0] 25 (0, 0) : Obj) ∧ wz.heap.size ≤ Y) := Lib.hid ⟨((chg_setCells X [.int .i64 (m.i 0), .int .u64 (m.i 1), .int .u64 (m.i 2), .string m.s, .int .i64 (m.i 4), .int .i64 (m.i 5), .int .i64 (m.i 6), .int .i64 (m.i 7), .int .i64 (m.i 8), .int .i64 (m.i 9), .int .i64 (m.i 10), .int .u64 (m.i 11), .int .u64 (m.i 12)] 0 wA2).block Y (lt_some HRY.out.1) (fun e => HNE.out (by omega))).trans HRY.out.1, HRY.out.2⟩
        clear HRX
        refine hK.out _ _ HBwTX.out (fun hHeld => ?_)
        clear hK K' hHeld
        try simp only [Act.put, p1, p2, p3]
        generalize (wA2.setCells X 0 [.int .i64 (m.i 0), .int .u64 (m.i 1), .int .u64 (m.i 2), .string m.s, .int .i64 (m.i 4), .int .i64 (m.i 5), .int .i64 (m.i 6), .int .i64 (m.i 7), .int .i64 (m.i 8), .int .i64 (m.i 9), .int .i64 (m.i 10), .int .u64 (m.i 11), .int .u64 (m.i 12)]) = wTX at HBwTX HSX HRY ⊢
        have hHeld := HBwTX.out
        refine wpAnyH_ready (rs := [12]) (by kernel_rfl) (by simp) ?_
        refine (AllReadyH.cons (o := ?o24_0) ?i24_0 (fun K' hK => ?g24_0) AllReadyH.nil)
        case' i24_0 => simp only [g1, g2, g3]
        case i24_0 => rfl
        obtain ⟨zf0, zf1, zf2, zf3, zf4, zf5, zf6, zf7, zf8, zf9, zf10, zf11, zf12⟩ := cell13s HRY.out.1
        have zz0 := thaw_of (off := 0) HRY.out.1
        have zz1 := thaw_of (off := 1) HRY.out.1
        have zz2 := thaw_of (off := 2) HRY.out.1
        have zz3 := thaw_of (off := 3) HRY.out.1
        have zz4 := thaw_of (off := 4) HRY.out.1
        have zz5 := thaw_of (off := 5) HRY.out.1
        have zz6 := thaw_of (off := 6) HRY.out.1
        have zz7 := thaw_of (off := 7) HRY.out.1
        have zz8 := thaw_of (off := 8) HRY.out.1
        have zz9 := thaw_of (off := 9) HRY.out.1
        have zz10 := thaw_of (off := 10) HRY.out.1
        have zz11 := thaw_of (off := 11) HRY.out.1
        have zz12 := thaw_of (off := 12) HRY.out.1
        go_simp
        clear zf0 zf1 zf2 zf3 zf4 zf5 zf6 zf7 zf8 zf9 zf10 zf11 zf12 zz0 zz1 zz2 zz3 zz4 zz5 zz6 zz7 zz8 zz9 zz10 zz11 zz12
        show K' _ (wTX.setCells Y 0 [.int .i64 (r.i 0), .int .u64 (r.i 1), .int .u64 (r.i 2), .string r.s, .int .i64 (r.i 4), .int .i64 (r.i 5), .int .i64 (r.i 6), .int .i64 (r.i 7), .int .i64 (r.i 8), .int .i64 (r.i 9), .int .i64 (r.i 10), .int .u64 (r.i 11), .int .u64 (r.i 12)])
        have HBwTY : Hid (Below wz.heap.size wz (wTX.setCells Y 0 [.int .i64 (r.i 0), .int .u64 (r.i 1), .int .u64 (r.i 2), .string r.s, .int .i64 (r.i 4), .int .i64 (r.i 5), .int .i64 (r.i 6), .int .i64 (r.i 7), .int .i64 (r.i 8), .int .i64 (r.i 9), .int .i64 (r.i 10), .int .u64 (r.i 11), .int .u64 (r.i 12)])) := Lib.hid (HBwTX.out.trans ((chg_setCells Y [.int .i64 (r.i 0), .int .u64 (r.i 1), .int .u64 (r.i 2), .string r.s, .int .i64 (r.i 4), .int .i64 (r.i 5), .int .i64 (r.i 6), .int .i64 (r.i 7), .int .i64 (r.i 8), .int .i64 (r.i 9), .int .i64 (r.i 10), .int .u64 (r.i 11), .int .u64 (r.i 12)] 0 wTX).below (fun k hk => by have := HRY.out.2; omega) HBwTX.out.size))
        have HSY : Hid ((wTX.setCells Y 0 [.int .i64 (r.i 0), .int .u64 (r.i 1), .int .u64 (r.i 2), .string r.s, .int .i64 (r.i 4), .int .i64 (r.i 5), .int .i64 (r.i 6), .int .i64 (r.i 7), .int .i64 (r.i 8), .int .i64 (r.i 9), .int .i64 (r.i 10), .int .u64 (r.i 11), .int .u64 (r.i 12)]).heap[Y]? = some (.cells #[.int .i64 (r.i 0), .int .u64 (r.i 1), .int .u64 (r.i 2), .string r.s, .int .i64 (r.i 4), .int .i64 (r.i 5), .int .i64 (r.i 6), .int .i64 (r.i 7), .int .i64 (r.i 8), .int .i64 (r.i 9), .int .i64 (r.i 10), .int .u64 (r.i 11), .int .u64 (r.i 12)] 25 (0, 0) : Obj) ∧ wz.heap.size ≤ Y) := Lib.hid ⟨row_all [.int .i64 (r.i 0), .int .u64 (r.i 1), .int .u64 (r.i 2), .string r.s, .int .i64 (r.i 4), .int .i64 (r.i 5), .int .i64 (r.i 6), .int .i64 (r.i 7), .int .i64 (r.i 8), .int .i64 (r.i 9), .int .i64 (r.i 10), .int .u64 (r.i 11), .int .u64 (r.i 12)] HRY.out.1 rfl, HRY.out.2⟩
        replace HSX : Hid ((wTX.setCells Y 0 [.int .i64 (r.i 0), .int .u64 (r.i 1), .int .u64 (r.i 2), .string r.s, .int .i64 (r.i 4), .int .i64 (r.i 5), .int .i64 (r.i 6), .int .i64 (r.i 7), .int .i64 (r.i 8), .int .i64 (r.i 9), .int .i64 (r.i 10), .int .u64 (r.i 11), .int .u64 (r.i 12)]).heap[X]? = some (.cells #[.int .i64 (m.i 0), .int .u64 (m.i 1), .int .u64 (m.i 2), .string m.s, .int .i64 (m.i 4), .int .i64 (m.i 5), .int .i64 (m.i 6), .int .i64 (m.i 7), .int .i64 (m.i 8), .int .i64 (m.i 9), .int .i64 (m.i 10), .int .u64 (m.i 11), .int .u64 (m.i 12)] 25 (0, 0) : Obj) ∧ wz.heap.size ≤ X) := Lib.hid ⟨((chg_setCells Y [.int .i64 (r.i 0), .int .u64 (r.i 1), .int .u64 (r.i 2), .string r.s, .int .i64 (r.i 4), .int .i64 (r.i 5), .int .i64 (r.i 6), .int .i64 (r.i 7), .int .i64 (r.i 8), .int .i64 (r.i 9), .int .i64 (r.i 10), .int .u64 (r.i 11), .int .u64 (r.i 12)] 0 wTX).block X (lt_some HSX.out.1) (fun e => HNE.out (by omega))).trans HSX.out.1, HSX.out.2⟩
        clear HRY
        refine hK.out _ _ HBwTY.out (fun hHeld => ?_)
        clear hK K' hHeld
        try simp only [Act.put, p1, p2, p3]
        generalize (wTX.setCells Y 0 [.int .i64 (r.i 0), .int .u64 (r.i 1), .int .u64 (r.i 2), .string r.s, .int .i64 (r.i 4), .int .i64 (r.i 5), .int .i64 (r.i 6), .int .i64 (r.i 7), .int .i64 (r.i 8), .int .i64 (r.i 9), .int .i64 (r.i 10), .int .u64 (r.i 11), .int .u64 (r.i 12)]) = wTY at HBwTY HSY HSX ⊢
        have hHeld := HBwTY.out
        refine wpAnyH_done (by kernel_rfl) ?_ _
        go_wp2_with fail
        go_meet
        exact ⟨X, Y, congrArg (Value.int IntKind.i64) eI.out, rfl, rfl, HNE.out, HSX.out.2, HSY.out.2, HBwTY, HSX, HSY⟩
      case g18_1 =>
        go_simp
        have HBwA2 : Hid (Below wz.heap.size wz (wA1.alloc (.cells #[.int .i64 0, .int .u64 0, .int .u64 0, .string ⟨#[]⟩, .int .i64 0, .int .i64 0, .int .i64 0, .int .i64 0, .int .i64 0, .int .i64 0, .int .i64 0, .int .u64 0, .int .u64 0] 25 : Obj))) := Lib.hid (HBwA1.out.alloc HBwA1.out.size _)
        have HRY : Hid ((wA1.alloc (.cells #[.int .i64 0, .int .u64 0, .int .u64 0, .string ⟨#[]⟩, .int .i64 0, .int .i64 0, .int .i64 0, .int .i64 0, .int .i64 0, .int .i64 0, .int .i64 0, .int .u64 0, .int .u64 0] 25 : Obj)).heap[wA1.heap.size]? = some (.cells #[.int .i64 0, .int .u64 0, .int .u64 0, .string ⟨#[]⟩, .int .i64 0, .int .i64 0, .int .i64 0, .int .i64 0, .int .i64 0, .int .i64 0, .int .i64 0, .int .u64 0, .int .u64 0] 25 (0, 0) : Obj) ∧ wz.heap.size ≤ wA1.heap.size) := Lib.hid ⟨heap_alloc_new wA1 _, HBwA1.out.size⟩
        have HNE : Hid (wA1.heap.size ≠ X) := Lib.hid (by have := lt_some HRX.out.1; omega)
        replace HRX : Hid ((wA1.alloc (.cells #[.int .i64 0, .int .u64 0, .int .u64 0, .string ⟨#[]⟩, .int .i64 0, .int .i64 0, .int .i64 0, .int .i64 0, .int .i64 0, .int .i64 0, .int .i64 0, .int .u64 0, .int .u64 0] 25 : Obj)).heap[X]? = some (.cells #[.int .i64 0, .int .u64 0, .int .u64 0, .string ⟨#[]⟩, .int .i64 0, .int .i64 0, .int .i64 0, .int .i64 0, .int .i64 0, .int .i64 0, .int .i64 0, .int .u64 0, .int .u64 0] 25 (0, 0) : Obj) ∧ wz.heap.size ≤ X) := Lib.hid ⟨((below_alloc wA1 _).block X (lt_some HRX.out.1)).trans HRX.out.1, HRX.out.2⟩
        refine hK.out _ _ HBwA2.out (fun hHeld => ?_)
        clear hK K' hHeld
        try simp only [Act.put, p1, p2, p3]
        generalize (wA1.alloc (.cells #[.int .i64 0, .int .u64 0, .int .u64 0, .string ⟨#[]⟩, .int .i64 0, .int .i64 0, .int .i64 0, .int .i64 0, .int .i64 0, .int .i64 0, .int .i64 0, .int .u64 0, .int .u64 0] 25 : Obj)) = wA2 at HBwA2 HRY HRX HNE ⊢
        generalize wA1.heap.size = Y at HBwA2 HRY HRX HNE ⊢
        have hHeld := HBwA2.out
        replace HNE := Lib.hid HNE.out.symm
        refine wpAnyH_ready (rs := [3]) (by kernel_rfl) (by simp) ?_
        refine (AllReadyH.cons (o := ?o25_0) ?i25_0 (fun K' hK => ?g25_0) AllReadyH.nil)
        case' i25_0 => simp only [g1, g2, g3]
        case i25_0 => rfl
        go_simp
        go_at_call 36
        refine (HLen.out _ HBwA2.out).mono ?_
        rintro e w9 ⟨rfl, rfl⟩
        go_wp2_with fail
        refine hK.out _ _ (HBwA2.out) (fun hHeld => ?_)
        clear hK K'
        try simp only [Act.put, p1, p2, p3]
        refine tk1 4 (oi := ?o26) (v := ?v26) ?i26 ?w26 ?y26 ?r26
        case' i26 => simp only [g1, g2, g3]
        case i26 => rfl
        case w26 => kernel_rfl
        case y26 => (intro W hSw; go_simp) <;> with_reducible rfl
        try simp only [Act.put, p1, p2, p3]
        refine tk1 5 (oi := ?o27) (v := ?v27) ?i27 ?w27 ?y27 ?r27
        case' i27 => simp only [g1, g2, g3]
        case i27 => rfl
        case w27 => kernel_rfl
        case y27 => (intro W hSw; go_simp) <;> with_reducible rfl
        try simp only [Act.put, p1, p2, p3]
        refine tk1 10 (oi := ?o28) (v := ?v28) ?i28 ?w28 ?y28 ?r28
        case' i28 => simp only [g1, g2, g3]
        case i28 => rfl
        case w28 => kernel_rfl
        case y28 => (intro W hSw; go_simp) <;> with_reducible rfl
        try simp only [Act.put, p1, p2, p3]
        refine wpAnyH_ready (rs := [11]) (by kernel_rfl) (by simp) ?_
        refine (AllReadyH.cons (o := ?o29_0) ?i29_0 (fun K' hK => ?g29_0) AllReadyH.nil)
        case' i29_0 => simp only [g1, g2, g3]
        case i29_0 => rfl
        obtain ⟨zf0, zf1, zf2, zf3, zf4, zf5, zf6, zf7, zf8, zf9, zf10, zf11, zf12⟩ := cell13s HRX.out.1
        have zz0 := thaw_of (off := 0) HRX.out.1
        have zz1 := thaw_of (off := 1) HRX.out.1
        have zz2 := thaw_of (off := 2) HRX.out.1
        have zz3 := thaw_of (off := 3) HRX.out.1
        have zz4 := thaw_of (off := 4) HRX.out.1
        have zz5 := thaw_of (off := 5) HRX.out.1
        have zz6 := thaw_of (off := 6) HRX.out.1
        have zz7 := thaw_of (off := 7) HRX.out.1
        have zz8 := thaw_of (off := 8) HRX.out.1
        have zz9 := thaw_of (off := 9) HRX.out.1
        have zz10 := thaw_of (off := 10) HRX.out.1
        have zz11 := thaw_of (off := 11) HRX.out.1
        have zz12 := thaw_of (off := 12) HRX.out.1
        go_simp
        clear zf0 zf1 zf2 zf3 zf4 zf5 zf6 zf7 zf8 zf9 zf10 zf11 zf12 zz0 zz1 zz2 zz3 zz4 zz5 zz6 zz7 zz8 zz9 zz10 zz11 zz12
        show K' _ (wA2.setCells X 0 [.int .i64 (m.i 0), .int .u64 (m.i 1), .int .u64 (m.i 2), .string m.s, .int .i64 (m.i 4), .int .i64 (m.i 5), .int .i64 (m.i 6), .int .i64 (m.i 7), .int .i64 (m.i 8), .int .i64 (m.i 9), .int .i64 (m.i 10), .int .u64 (m.i 11), .int .u64 (m.i 12)])
        have HBwTX : Hid (Below wz.heap.size wz (wA2.setCells X 0 [.int .i64 (m.i 0), .int .u64 (m.i 1), .int .u64 (m.i 2), .string m.s, .int .i64 (m.i 4), .int .i64 (m.i 5), .int .i64 (m.i 6), .int .i64 (m.i 7), .int .i64 (m.i 8), .int .i64 (m.i 9), .int .i64 (m.i 10), .int .u64 (m.i 11), .int .u64 (m.i 12)])) := Lib.hid (HBwA2.out.trans ((chg_setCells X [.int .i64 (m.i 0), .int .u64 (m.i 1), .int .u64 (m.i 2), .string m.s, .int .i64 (m.i 4), .int .i64 (m.i 5), .int .i64 (m.i 6), .int .i64 (m.i 7), .int .i64 (m.i 8), .int .i64 (m.i 9), .int .i64 (m.i 10), .int .u64 (m.i 11), .int .u64 (m.i 12)] 0 wA2).below (fun k hk => by have := HRX.out.2; omega) HBwA2.out.size))
        have HSX : Hid ((wA2.setCells X 0 [.int .i64 (m.i 0), .int .u64 (m.i 1), .int .u64 (m.i 2), .string m.s, .int .i64 (m.i 4), .int .i64 (m.i 5), .int .i64 (m.i 6), .int .i64 (m.i 7), .int .i64 (m.i 8), .int .i64 (m.i 9), .int .i64 (m.i 10), .int .u64 (m.i 11), .int .u64 (m.i 12)]).heap[X]? = some (.cells #[.int .i64 (m.i 0), .int .u64 (m.i 1), .int .u64 (m.i 2), .string m.s, .int .i64 (m.i 4), .int .i64 (m.i 5), .int .i64 (m.i 6), .int .i64 (m.i 7), .int .i64 (m.i 8), .int .i64 (m.i 9), .int .i64 (m.i 10), .int .u64 (m.i 11), .int .u64 (m.i 12)] 25 (0, 0) : Obj) ∧ wz.heap.size ≤ X) := Lib.hid ⟨row_all [.int .i64 (m.i 0), .int .u64 (m.i 1), .int .u64 (m.i 2), .string m.s, .int .i64 (m.i 4), .int .i64 (m.i 5), .int .i64 (m.i 6), .int .i64 (m.i 7), .int .i64 (m.i 8), .int .i64 (m.i 9), .int .i64 (m.i 10), .int .u64 (m.i 11), .int .u64 (m.i 12)] HRX.out.1 rfl, HRX.out.2⟩
        replace HRY : Hid ((wA2.setCells X 0 [.int .i64 (m.i 0), .int .u64 (m.i 1), .int .u64 (m.i 2), .string m.s, .int .i64 (m.i 4), .int .i64 (m.i 5), .int .i64 (m.i 6), .int .i64 (m.i 7), .int .i64 (m.i 8), .int .i64 (m.i 9), .int .i64 (m.i 10), .int .u64 (m.i 11), .int .u64 (m.i 12)]).heap[Y]? = some (.cells #[.int .i64 0, .int .u64 0, .int .u64 0, .string ⟨#[]⟩, .int .i64 0, .int .i64 0, .int .i64 0, .int .i64 0, .int .i64 0, .int .i64 0, .int .i64 0, .int .u64 0, .int .u64 0] 25 (0, 0) : Obj) ∧ wz.heap.size ≤ Y) := Lib.hid ⟨((chg_setCells X [.int .i64 (m.i 0), .int .u64 (m.i 1), .int .u64 (m.i 2), .string m.s, .int .i64 (m.i 4), .int .i64 (m.i 5), .int .i64 (m.i 6), .int .i64 (m.i 7), .int .i64 (m.i 8), .int .i64 (m.i 9), .int .i64 (m.i 10), .int .u64 (m.i 11), .int .u64 (m.i 12)] 0 wA2).block Y (lt_some HRY.out.1) (fun e => HNE.out (by omega))).trans HRY.out.1, HRY.out.2⟩
        clear HRX
        refine hK.out _ _ HBwTX.out (fun hHeld => ?_)
        clear hK K' hHeld
        try simp only [Act.put, p1, p2, p3]
        generalize (wA2.setCells X 0 [.int .i64 (m.i 0), .int .u64 (m.i 1), .int .u64 (m.i 2), .string m.s, .int .i64 (m.i 4), .int .i64 (m.i 5), .int .i64 (m.i 6), .int .i64 (m.i 7), .int .i64 (m.i 8), .int .i64 (m.i 9), .int .i64 (m.i 10), .int .u64 (m.i 11), .int .u64 (m.i 12)]) = wTX at HBwTX HSX HRY ⊢
        have hHeld := HBwTX.out
        refine wpAnyH_ready (rs := [12]) (by kernel_rfl) (by simp) ?_
        refine (AllReadyH.cons (o := ?o30_0) ?i30_0 (fun K' hK => ?g30_0) AllReadyH.nil)
        case' i30_0 => simp only [g1, g2, g3]
        case i30_0 => rfl
        obtain ⟨zf0, zf1, zf2, zf3, zf4, zf5, zf6, zf7, zf8, zf9, zf10, zf11, zf12⟩ := cell13s HRY.out.1
        have zz0 := thaw_of (off := 0) HRY.out.1
        have zz1 := thaw_of (off := 1) HRY.out.1
        have zz2 := thaw_of (off := 2) HRY.out.1
        have zz3 := thaw_of (off := 3) HRY.out.1
        have zz4 := thaw_of (off := 4) HRY.out.1
        have zz5 := thaw_of (off := 5) HRY.out.1
        have zz6 := thaw_of (off := 6) HRY.out.1
        have zz7 := thaw_of (off := 7) HRY.out.1
        have zz8 := thaw_of (off := 8) HRY.out.1
        have zz9 := thaw_of (off := 9) HRY.out.1
        have zz10 := thaw_of (off := 10) HRY.out.1
        have zz11 := thaw_of (off := 11) HRY.out.1
        have zz12 := thaw_of (off := 12) HRY.out.1
        go_simp
        clear zf0 zf1 zf2 zf3 zf4 zf5 zf6 zf7 zf8 zf9 zf10 zf11 zf12 zz0 zz1 zz2 zz3 zz4 zz5 zz6 zz7 zz8 zz9 zz10 zz11 zz12
        show K' _ (wTX.setCells Y 0 [.int .i64 (r.i 0), .int .u64 (r.i 1), .int .u64 (r.i 2), .string r.s, .int .i64 (r.i 4), .int .i64 (r.i 5), .int .i64 (r.i 6), .int .i64 (r.i 7), .int .i64 (r.i 8), .int .i64 (r.i 9), .int .i64 (r.i 10), .int .u64 (r.i 11), .int .u64 (r.i 12)])
        have HBwTY : Hid (Below wz.heap.size wz (wTX.setCells Y 0 [.int .i64 (r.i 0), .int .u64 (r.i 1), .int .u64 (r.i 2), .string r.s, .int .i64 (r.i 4), .int .i64 (r.i 5), .int .i64 (r.i 6), .int .i64 (r.i 7), .int .i64 (r.i 8), .int .i64 (r.i 9), .int .i64 (r.i 10), .int .u64 (r.i 11), .int .u64 (r.i 12)])) := Lib.hid (HBwTX.out.trans ((chg_setCells Y [.int .i64 (r.i 0), .int .u64 (r.i 1), .int .u64 (r.i 2), .string r.s, .int .i64 (r.i 4), .int .i64 (r.i 5), .int .i64 (r.i 6), .int .i64 (r.i 7), .int .i64 (r.i 8), .int .i64 (r.i 9), .int .i64 (r.i 10), .int .u64 (r.i 11), .int .u64 (r.i 12)] 0 wTX).below (fun k hk => by have := HRY.out.2; omega) HBwTX.out.size))
        have HSY : Hid ((wTX.setCells Y 0 [.int .i64 (r.i 0), .int .u64 (r.i 1), .int .u64 (r.i 2), .string r.s, .int .i64 (r.i 4), .int .i64 (r.i 5), .int .i64 (r.i 6), .int .i64 (r.i 7), .int .i64 (r.i 8), .int .i64 (r.i 9), .int .i64 (r.i 10), .int .u64 (r.i 11), .int .u64 (r.i 12)]).heap[Y]? = some (.cells #[.int .i64 (r.i 0), .int .u64 (r.i 1), .int .u64 (r.i 2), .string r.s, .int .i64 (r.i 4), .int .i64 (r.i 5), .int .i64 (r.i 6), .int .i64 (r.i 7), .int .i64 (r.i 8), .int .i64 (r.i 9), .int .i64 (r.i 10), .int .u64 (r.i 11), .int .u64 (r.i 12)] 25 (0, 0) : Obj) ∧ wz.heap.size ≤ Y) := Lib.hid ⟨row_all [.int .i64 (r.i 0), .int .u64 (r.i 1), .int .u64 (r.i 2), .string r.s, .int .i64 (r.i 4), .int .i64 (r.i 5), .int .i64 (r.i 6), .int .i64 (r.i 7), .int .i64 (r.i 8), .int .i64 (r.i 9), .int .i64 (r.i 10), .int .u64 (r.i 11), .int .u64 (r.i 12)] HRY.out.1 rfl, HRY.out.2⟩
        replace HSX : Hid ((wTX.setCells Y 0 [.int .i64 (r.i 0), .int .u64 (r.i 1), .int .u64 (r.i 2), .string r.s, .int .i64 (r.i 4), .int .i64 (r.i 5), .int .i64 (r.i 6), .int .i64 (r.i 7), .int .i64 (r.i 8), .int .i64 (r.i 9), .int .i64 (r.i 10), .int .u64 (r.i 11), .int .u64 (r.i 12)]).heap[X]? = some (.cells #[.int .i64 (m.i 0), .int .u64 (m.i 1), .int .u64 (m.i 2), .string m.s, .int .i64 (m.i 4), .int .i64 (m.i 5), .int .i64 (m.i 6), .int .i64 (m.i 7), .int .i64 (m.i 8), .int .i64 (m.i 9), .int .i64 (m.i 10), .int .u64 (m.i 11), .int .u64 (m.i 12)] 25 (0, 0) : Obj) ∧ wz.heap.size ≤ X) := Lib.hid ⟨((chg_setCells Y [.int .i64 (r.i 0), .int .u64 (r.i 1), .int .u64 (r.i 2), .string r.s, .int .i64 (r.i 4), .int .i64 (r.i 5), .int .i64 (r.i 6), .int .i64 (r.i 7), .int .i64 (r.i 8), .int .i64 (r.i 9), .int .i64 (r.i 10), .int .u64 (r.i 11), .int .u64 (r.i 12)] 0 wTX).block X (lt_some HSX.out.1) (fun e => HNE.out (by omega))).trans HSX.out.1, HSX.out.2⟩
        clear HRY
        refine hK.out _ _ HBwTY.out (fun hHeld => ?_)
        clear hK K' hHeld
        try simp only [Act.put, p1, p2, p3]
        generalize (wTX.setCells Y 0 [.int .i64 (r.i 0), .int .u64 (r.i 1), .int .u64 (r.i 2), .string r.s, .int .i64 (r.i 4), .int .i64 (r.i 5), .int .i64 (r.i 6), .int .i64 (r.i 7), .int .i64 (r.i 8), .int .i64 (r.i 9), .int .i64 (r.i 10), .int .u64 (r.i 11), .int .u64 (r.i 12)]) = wTY at HBwTY HSY HSX ⊢
        have hHeld := HBwTY.out
        refine wpAnyH_done (by kernel_rfl) ?_ _
        go_wp2_with fail
        go_meet
        exact ⟨X, Y, congrArg (Value.int IntKind.i64) eI.out, rfl, rfl, HNE.out, HSX.out.2, HSY.out.2, HBwTY, HSX, HSY⟩
    case g6_2 =>
      go_simp
      have HBwA1 : Hid (Below wz.heap.size wz (wS.alloc (.cells #[.int .i64 0, .int .u64 0, .int .u64 0, .string ⟨#[]⟩, .int .i64 0, .int .i64 0, .int .i64 0, .int .i64 0, .int .i64 0, .int .i64 0, .int .i64 0, .int .u64 0, .int .u64 0] 25 : Obj))) := Lib.hid (HBwS.out.alloc HBwS.out.size _)
      have HRY : Hid ((wS.alloc (.cells #[.int .i64 0, .int .u64 0, .int .u64 0, .string ⟨#[]⟩, .int .i64 0, .int .i64 0, .int .i64 0, .int .i64 0, .int .i64 0, .int .i64 0, .int .i64 0, .int .u64 0, .int .u64 0] 25 : Obj)).heap[wS.heap.size]? = some (.cells #[.int .i64 0, .int .u64 0, .int .u64 0, .string ⟨#[]⟩, .int .i64 0, .int .i64 0, .int .i64 0, .int .i64 0, .int .i64 0, .int .i64 0, .int .i64 0, .int .u64 0, .int .u64 0] 25 (0, 0) : Obj) ∧ wz.heap.size ≤ wS.heap.size) := Lib.hid ⟨heap_alloc_new wS _, HBwS.out.size⟩
      refine hK.out _ _ HBwA1.out (fun hHeld => ?_)
      clear hK K' hHeld
      try simp only [Act.put, p1, p2, p3]
      generalize (wS.alloc (.cells #[.int .i64 0, .int .u64 0, .int .u64 0, .string ⟨#[]⟩, .int .i64 0, .int .i64 0, .int .i64 0, .int .i64 0, .int .i64 0, .int .i64 0, .int .i64 0, .int .u64 0, .int .u64 0] 25 : Obj)) = wA1 at HBwA1 HRY ⊢
      generalize wS.heap.size = Y at HBwA1 HRY ⊢
      have hHeld := HBwA1.out
      refine wpAnyH_ready (rs := [3, 8]) (by kernel_rfl) (by simp) ?_
      refine (AllReadyH.cons (o := ?o31_0) ?i31_0 (fun K' hK => ?g31_0) (AllReadyH.cons (o := ?o31_1) ?i31_1 (fun K' hK => ?g31_1) AllReadyH.nil))
      case' i31_0 => simp only [g1, g2, g3]
      case i31_0 => rfl
      case' i31_1 => simp only [g1, g2, g3]
      case i31_1 => rfl
      case g31_0 =>
        go_simp
        go_at_call 36
        refine (HLen.out _ HBwA1.out).mono ?_
        rintro e w9 ⟨rfl, rfl⟩
        go_wp2_with fail
        refine hK.out _ _ (HBwA1.out) (fun hHeld => ?_)
        clear hK K'
        try simp only [Act.put, p1, p2, p3]
        refine tk1 4 (oi := ?o32) (v := ?v32) ?i32 ?w32 ?y32 ?r32
        case' i32 => simp only [g1, g2, g3]
        case i32 => rfl
        case w32 => kernel_rfl
        case y32 => (intro W hSw; go_simp) <;> with_reducible rfl
        try simp only [Act.put, p1, p2, p3]
        refine tk1 5 (oi := ?o33) (v := ?v33) ?i33 ?w33 ?y33 ?r33
        case' i33 => simp only [g1, g2, g3]
        case i33 => rfl
        case w33 => kernel_rfl
        case y33 => (intro W hSw; go_simp) <;> with_reducible rfl
        try simp only [Act.put, p1, p2, p3]
        refine wpAnyH_ready (rs := [8]) (by kernel_rfl) (by simp) ?_
        refine (AllReadyH.cons (o := ?o34_0) ?i34_0 (fun K' hK => ?g34_0) AllReadyH.nil)
        case' i34_0 => simp only [g1, g2, g3]
        case i34_0 => rfl
        go_simp
        have HBwA2 : Hid (Below wz.heap.size wz (wA1.alloc (.cells #[.int .i64 0, .int .u64 0, .int .u64 0, .string ⟨#[]⟩, .int .i64 0, .int .i64 0, .int .i64 0, .int .i64 0, .int .i64 0, .int .i64 0, .int .i64 0, .int .u64 0, .int .u64 0] 25 : Obj))) := Lib.hid (HBwA1.out.alloc HBwA1.out.size _)
        have HRX : Hid ((wA1.alloc (.cells #[.int .i64 0, .int .u64 0, .int .u64 0, .string ⟨#[]⟩, .int .i64 0, .int .i64 0, .int .i64 0, .int .i64 0, .int .i64 0, .int .i64 0, .int .i64 0, .int .u64 0, .int .u64 0] 25 : Obj)).heap[wA1.heap.size]? = some (.cells #[.int .i64 0, .int .u64 0, .int .u64 0, .string ⟨#[]⟩, .int .i64 0, .int .i64 0, .int .i64 0, .int .i64 0, .int .i64 0, .int .i64 0, .int .i64 0, .int .u64 0, .int .u64 0] 25 (0, 0) : Obj) ∧ wz.heap.size ≤ wA1.heap.size) := Lib.hid ⟨heap_alloc_new wA1 _, HBwA1.out.size⟩
        have HNE : Hid (wA1.heap.size ≠ Y) := Lib.hid (by have := lt_some HRY.out.1; omega)
        replace HRY : Hid ((wA1.alloc (.cells #[.int .i64 0, .int .u64 0, .int .u64 0, .string ⟨#[]⟩, .int .i64 0, .int .i64 0, .int .i64 0, .int .i64 0, .int .i64 0, .int .i64 0, .int .i64 0, .int .u64 0, .int .u64 0] 25 : Obj)).heap[Y]? = some (.cells #[.int .i64 0, .int .u64 0, .int .u64 0, .string ⟨#[]⟩, .int .i64 0, .int .i64 0, .int .i64 0, .int .i64 0, .int .i64 0, .int .i64 0, .int .i64 0, .int .u64 0, .int .u64 0] 25 (0, 0) : Obj) ∧ wz.heap.size ≤ Y) := Lib.hid ⟨((below_alloc wA1 _).block Y (lt_some HRY.out.1)).trans HRY.out.1, HRY.out.2⟩
        refine hK.out _ _ HBwA2.out (fun hHeld => ?_)
        clear hK K' hHeld
        try simp only [Act.put, p1, p2, p3]
        generalize (wA1.alloc (.cells #[.int .i64 0, .int .u64 0, .int .u64 0, .string ⟨#[]⟩, .int .i64 0, .int .i64 0, .int .i64 0, .int .i64 0, .int .i64 0, .int .i64 0, .int .i64 0, .int .u64 0, .int .u64 0] 25 : Obj)) = wA2 at HBwA2 HRX HRY HNE ⊢
        generalize wA1.heap.size = X at HBwA2 HRX HRY HNE ⊢
        have hHeld := HBwA2.out
        refine tk1 10 (oi := ?o35) (v := ?v35) ?i35 ?w35 ?y35 ?r35
        case' i35 => simp only [g1, g2, g3]
        case i35 => rfl
        case w35 => kernel_rfl
        case y35 => (intro W hSw; go_simp) <;> with_reducible rfl
        try simp only [Act.put, p1, p2, p3]
        refine wpAnyH_ready (rs := [11]) (by kernel_rfl) (by simp) ?_
        refine (AllReadyH.cons (o := ?o36_0) ?i36_0 (fun K' hK => ?g36_0) AllReadyH.nil)
        case' i36_0 => simp only [g1, g2, g3]
        case i36_0 => rfl
        obtain ⟨zf0, zf1, zf2, zf3, zf4, zf5, zf6, zf7, zf8, zf9, zf10, zf11, zf12⟩ := cell13s HRX.out.1
        have zz0 := thaw_of (off := 0) HRX.out.1
        have zz1 := thaw_of (off := 1) HRX.out.1
        have zz2 := thaw_of (off := 2) HRX.out.1
        have zz3 := thaw_of (off := 3) HRX.out.1
        have zz4 := thaw_of (off := 4) HRX.out.1
        have zz5 := thaw_of (off := 5) HRX.out.1
        have zz6 := thaw_of (off := 6) HRX.out.1
        have zz7 := thaw_of (off := 7) HRX.out.1
        have zz8 := thaw_of (off := 8) HRX.out.1
        have zz9 := thaw_of (off := 9) HRX.out.1
        have zz10 := thaw_of (off := 10) HRX.out.1
        have zz11 := thaw_of (off := 11) HRX.out.1
        have zz12 := thaw_of (off := 12) HRX.out.1
        go_simp
        clear zf0 zf1 zf2 zf3 zf4 zf5 zf6 zf7 zf8 zf9 zf10 zf11 zf12 zz0 zz1 zz2 zz3 zz4 zz5 zz6 zz7 zz8 zz9 zz10 zz11 zz12
        show K' _ (wA2.setCells X 0 [.int .i64 (m.i 0), .int .u64 (m.i 1), .int .u64 (m.i 2), .string m.s, .int .i64 (m.i 4), .int .i64 (m.i 5), .int .i64 (m.i 6), .int .i64 (m.i 7), .int .i64 (m.i 8), .int .i64 (m.i 9), .int .i64 (m.i 10), .int .u64 (m.i 11), .int .u64 (m.i 12)])
        have HBwTX : Hid (Below wz.heap.size wz (wA2.setCells X 0 [.int .i64 (m.i 0), .int .u64 (m.i 1), .int .u64 (m.i 2), .string m.s, .int .i64 (m.i 4), .int .i64 (m.i 5), .int .i64 (m.i 6), .int .i64 (m.i 7), .int .i64 (m.i 8), .int .i64 (m.i 9), .int .i64 (m.i 10), .int .u64 (m.i 11), .int .u64 (m.i 12)])) := Lib.hid (HBwA2.out.trans ((chg_setCells X [.int .i64 (m.i 0), .int .u64 (m.i 1), .int .u64 (m.i 2), .string m.s, .int .i64 (m.i 4), .int .i64 (m.i 5), .int .i64 (m.i 6), .int .i64 (m.i 7), .int .i64 (m.i 8), .int .i64 (m.i 9), .int .i64 (m.i 10), .int .u64 (m.i 11), .int .u64 (m.i 12)] 0 wA2).below (fun k hk => by have := HRX.out.2; omega) HBwA2.out.size))
        have HSX : Hid ((wA2.setCells X 0 [.int .i64 (m.i 0), .int .u64 (m.i 1), .int .u64 (m.i 2), .string m.s, .int .i64 (m.i 4), .int .i64 (m.i 5), .int .i64 (m.i 6), .int .i64 (m.i 7), .int .i64 (m.i 8), .int .i64 (m.i 9), .int .i64 (m.i 10), .int .u64 (m.i 11), .int .u64 (m.i 12)]).heap[X]? = some (.cells #[.int .i64 (m.i 0), .int .u64 (m.i 1), .int .u64 (m.i 2), .string m.s, .int .i64 (m.i 4), .int .i64 (m.i 5), .int .i64 (m.i 6), .int .i64 (m.i 7), .int .i64 (m.i 8), .int .i64 (m.i 9), .int .i64 (m.i 10), .int .u64 (m.i 11), .int .u64 (m.i 12)] 25 (0, 0) : Obj) ∧ wz.heap.size ≤ X) := Lib.hid ⟨row_all [.int .i64 (m.i 0), .int .u64 (m.i 1), .int .u64 (m.i 2), .string m.s, .int .i64 (m.i 4), .int .i64 (m.i 5), .int .i64 (m.i 6), .int .i64 (m.i 7), .int .i64 (m.i 8), .int .i64 (m.i 9), .int .i64 (m.i 10), .int .u64 (m.i 11), .int .u64 (m.i 12)] HRX.out.1 rfl, HRX.out.2⟩
        replace HRY : Hid ((wA2.setCells X 0 [.int .i64 (m.i 0), .int .u64 (m.i 1), .int .u64 (m.i 2), .string m.s, .int .i64 (m.i 4), .int .i64 (m.i 5), .int .i64 (m.i 6), .int .i64 (m.i 7), .int .i64 (m.i 8), .int .i64 (m.i 9), .int .i64 (m.i 10), .int .u64 (m.i 11), .int .u64 (m.i 12)]).heap[Y]? = some (.cells #[.int .i64 0, .int .u64 0, .int .u64 0, .string ⟨#[]⟩, .int .i64 0, .int .i64 0, .int .i64 0, .int .i64 0, .int .i64 0, .int .i64 0, .int .i64 0, .int .u64 0, .int .u64 0] 25 (0, 0) : Obj) ∧ wz.heap.size ≤ Y) := Lib.hid ⟨((chg_setCells X [.int .i64 (m.i 0), .int .u64 (m.i 1), .int .u64 (m.i 2), .string m.s, .int .i64 (m.i 4), .int .i64 (m.i 5), .int .i64 (m.i 6), .int .i64 (m.i 7), .int .i64 (m.i 8), .int .i64 (m.i 9), .int .i64 (m.i 10), .int .u64 (m.i 11), .int .u64 (m.i 12)] 0 wA2).block Y (lt_some HRY.out.1) (fun e => HNE.out (by omega))).trans HRY.out.1, HRY.out.2⟩
        clear HRX
        refine hK.out _ _ HBwTX.out (fun hHeld => ?_)
        clear hK K' hHeld
        try simp only [Act.put, p1, p2, p3]
        generalize (wA2.setCells X 0 [.int .i64 (m.i 0), .int .u64 (m.i 1), .int .u64 (m.i 2), .string m.s, .int .i64 (m.i 4), .int .i64 (m.i 5), .int .i64 (m.i 6), .int .i64 (m.i 7), .int .i64 (m.i 8), .int .i64 (m.i 9), .int .i64 (m.i 10), .int .u64 (m.i 11), .int .u64 (m.i 12)]) = wTX at HBwTX HSX HRY ⊢
        have hHeld := HBwTX.out
        refine wpAnyH_ready (rs := [12]) (by kernel_rfl) (by simp) ?_
        refine (AllReadyH.cons (o := ?o37_0) ?i37_0 (fun K' hK => ?g37_0) AllReadyH.nil)
        case' i37_0 => simp only [g1, g2, g3]
        case i37_0 => rfl
        obtain ⟨zf0, zf1, zf2, zf3, zf4, zf5, zf6, zf7, zf8, zf9, zf10, zf11, zf12⟩ := cell13s HRY.out.1
        have zz0 := thaw_of (off := 0) HRY.out.1
        have zz1 := thaw_of (off := 1) HRY.out.1
        have zz2 := thaw_of (off := 2) HRY.out.1
        have zz3 := thaw_of (off := 3) HRY.out.1
        have zz4 := thaw_of (off := 4) HRY.out.1
        have zz5 := thaw_of (off := 5) HRY.out.1
        have zz6 := thaw_of (off := 6) HRY.out.1
        have zz7 := thaw_of (off := 7) HRY.out.1
        have zz8 := thaw_of (off := 8) HRY.out.1
        have zz9 := thaw_of (off := 9) HRY.out.1
        have zz10 := thaw_of (off := 10) HRY.out.1
        have zz11 := thaw_of (off := 11) HRY.out.1
        have zz12 := thaw_of (off := 12) HRY.out.1
        go_simp
        clear zf0 zf1 zf2 zf3 zf4 zf5 zf6 zf7 zf8 zf9 zf10 zf11 zf12 zz0 zz1 zz2 zz3 zz4 zz5 zz6 zz7 zz8 zz9 zz10 zz11 zz12
        show K' _ (wTX.setCells Y 0 [.int .i64 (r.i 0), .int .u64 (r.i 1), .int .u64 (r.i 2), .string r.s, .int .i64 (r.i 4), .int .i64 (r.i 5), .int .i64 (r.i 6), .int .i64 (r.i 7), .int .i64 (r.i 8), .int .i64 (r.i 9), .int .i64 (r.i 10), .int .u64 (r.i 11), .int .u64 (r.i 12)])
        have HBwTY : Hid (Below wz.heap.size wz (wTX.setCells Y 0 [.int .i64 (r.i 0), .int .u64 (r.i 1), .int .u64 (r.i 2), .string r.s, .int .i64 (r.i 4), .int .i64 (r.i 5), .int .i64 (r.i 6), .int .i64 (r.i 7), .int .i64 (r.i 8), .int .i64 (r.i 9), .int .i64 (r.i 10), .int .u64 (r.i 11), .int .u64 (r.i 12)])) := Lib.hid (HBwTX.out.trans ((chg_setCells Y [.int .i64 (r.i 0), .int .u64 (r.i 1), .int .u64 (r.i 2), .string r.s, .int .i64 (r.i 4), .int .i64 (r.i 5), .int .i64 (r.i 6), .int .i64 (r.i 7), .int .i64 (r.i 8), .int .i64 (r.i 9), .int .i64 (r.i 10), .int .u64 (r.i 11), .int .u64 (r.i 12)] 0 wTX).below (fun k hk => by have := HRY.out.2; omega) HBwTX.out.size))
        have HSY : Hid ((wTX.setCells Y 0 [.int .i64 (r.i 0), .int .u64 (r.i 1), .int .u64 (r.i 2), .string r.s, .int .i64 (r.i 4), .int .i64 (r.i 5), .int .i64 (r.i 6), .int .i64 (r.i 7), .int .i64 (r.i 8), .int .i64 (r.i 9), .int .i64 (r.i 10), .int .u64 (r.i 11), .int .u64 (r.i 12)]).heap[Y]? = some (.cells #[.int .i64 (r.i 0), .int .u64 (r.i 1), .int .u64 (r.i 2), .string r.s, .int .i64 (r.i 4), .int .i64 (r.i 5), .int .i64 (r.i 6), .int .i64 (r.i 7), .int .i64 (r.i 8), .int .i64 (r.i 9), .int .i64 (r.i 10), .int .u64 (r.i 11), .int .u64 (r.i 12)] 25 (0, 0) : Obj) ∧ wz.heap.size ≤ Y) := Lib.hid ⟨row_all [.int .i64 (r.i 0), .int .u64 (r.i 1), .int .u64 (r.i 2), .string r.s, .int .i64 (r.i 4), .int .i64 (r.i 5), .int .i64 (r.i 6), .int .i64 (r.i 7), .int .i64 (r.i 8), .int .i64 (r.i 9), .int .i64 (r.i 10), .int .u64 (r.i 11), .int .u64 (r.i 12)] HRY.out.1 rfl, HRY.out.2⟩
        replace HSX : Hid ((wTX.setCells Y 0 [.int .i64 (r.i 0), .int .u64 (r.i 1), .int .u64 (r.i 2), .string r.s, .int .i64 (r.i 4), .int .i64 (r.i 5), .int .i64 (r.i 6), .int .i64 (r.i 7), .int .i64 (r.i 8), .int .i64 (r.i 9), .int .i64 (r.i 10), .int .u64 (r.i 11), .int .u64 (r.i 12)]).heap[X]? = some (.cells #[.int .i64 (m.i 0), .int .u64 (m.i 1), .int .u64 (m.i 2), .string m.s, .int .i64 (m.i 4), .int .i64 (m.i 5), .int .i64 (m.i 6), .int .i64 (m.i 7), .int .i64 (m.i 8), .int .i64 (m.i 9), .int .i64 (m.i 10), .int .u64 (m.i 11), .int .u64 (m.i 12)] 25 (0, 0) : Obj) ∧ wz.heap.size ≤ X) := Lib.hid ⟨((chg_setCells Y [.int .i64 (r.i 0), .int .u64 (r.i 1), .int .u64 (r.i 2), .string r.s, .int .i64 (r.i 4), .int .i64 (r.i 5), .int .i64 (r.i 6), .int .i64 (r.i 7), .int .i64 (r.i 8), .int .i64 (r.i 9), .int .i64 (r.i 10), .int .u64 (r.i 11), .int .u64 (r.i 12)] 0 wTX).block X (lt_some HSX.out.1) (fun e => HNE.out (by omega))).trans HSX.out.1, HSX.out.2⟩
        clear HRY
        refine hK.out _ _ HBwTY.out (fun hHeld => ?_)
        clear hK K' hHeld
        try simp only [Act.put, p1, p2, p3]
        generalize (wTX.setCells Y 0 [.int .i64 (r.i 0), .int .u64 (r.i 1), .int .u64 (r.i 2), .string r.s, .int .i64 (r.i 4), .int .i64 (r.i 5), .int .i64 (r.i 6), .int .i64 (r.i 7), .int .i64 (r.i 8), .int .i64 (r.i 9), .int .i64 (r.i 10), .int .u64 (r.i 11), .int .u64 (r.i 12)]) = wTY at HBwTY HSY HSX ⊢
        have hHeld := HBwTY.out
        refine wpAnyH_done (by kernel_rfl) ?_ _
        go_wp2_with fail
        go_meet
        exact ⟨X, Y, congrArg (Value.int IntKind.i64) eI.out, rfl, rfl, HNE.out, HSX.out.2, HSY.out.2, HBwTY, HSX, HSY⟩
      case g31_1 =>
        go_simp
        have HBwA2 : Hid (Below wz.heap.size wz (wA1.alloc (.cells #[.int .i64 0, .int .u64 0, .int .u64 0, .string ⟨#[]⟩, .int .i64 0, .int .i64 0, .int .i64 0, .int .i64 0, .int .i64 0, .int .i64 0, .int .i64 0, .int .u64 0, .int .u64 0] 25 : Obj))) := Lib.hid (HBwA1.out.alloc HBwA1.out.size _)
        have HRX : Hid ((wA1.alloc (.cells #[.int .i64 0, .int .u64 0, .int .u64 0, .string ⟨#[]⟩, .int .i64 0, .int .i64 0, .int .i64 0, .int .i64 0, .int .i64 0, .int .i64 0, .int .i64 0, .int .u64 0, .int .u64 0] 25 : Obj)).heap[wA1.heap.size]? = some (.cells #[.int .i64 0, .int .u64 0, .int .u64 0, .string ⟨#[]⟩, .int .i64 0, .int .i64 0, .int .i64 0, .int .i64 0, .int .i64 0, .int .i64 0, .int .i64 0, .int .u64 0, .int .u64 0] 25 (0, 0) : Obj) ∧ wz.heap.size ≤ wA1.heap.size) := Lib.hid ⟨heap_alloc_new wA1 _, HBwA1.out.size⟩
        have HNE : Hid (wA1.heap.size ≠ Y) := Lib.hid (by have := lt_some HRY.out.1; omega)
        replace HRY : Hid ((wA1.alloc (.cells #[.int .i64 0, .int .u64 0, .int .u64 0, .string ⟨#[]⟩, .int .i64 0, .int .i64 0, .int .i64 0, .int .i64 0, .int .i64 0, .int .i64 0, .int .i64 0, .int .u64 0, .int .u64 0] 25 : Obj)).heap[Y]? = some (.cells #[.int .i64 0, .int .u64 0, .int .u64 0, .string ⟨#[]⟩, .int .i64 0, .int .i64 0, .int .i64 0, .int .i64 0, .int .i64 0, .int .i64 0, .int .i64 0, .int .u64 0, .int .u64 0] 25 (0, 0) : Obj) ∧ wz.heap.size ≤ Y) := Lib.hid ⟨((below_alloc wA1 _).block Y (lt_some HRY.out.1)).trans HRY.out.1, HRY.out.2⟩
        refine hK.out _ _ HBwA2.out (fun hHeld => ?_)
        clear hK K' hHeld
        try simp only [Act.put, p1, p2, p3]
        generalize (wA1.alloc (.cells #[.int .i64 0, .int .u64 0, .int .u64 0, .string ⟨#[]⟩, .int .i64 0, .int .i64 0, .int .i64 0, .int .i64 0, .int .i64 0, .int .i64 0, .int .i64 0, .int .u64 0, .int .u64 0] 25 : Obj)) = wA2 at HBwA2 HRX HRY HNE ⊢
        generalize wA1.heap.size = X at HBwA2 HRX HRY HNE ⊢
        have hHeld := HBwA2.out
        refine wpAnyH_ready (rs := [3]) (by kernel_rfl) (by simp) ?_
        refine (AllReadyH.cons (o := ?o38_0) ?i38_0 (fun K' hK => ?g38_0) AllReadyH.nil)
        case' i38_0 => simp only [g1, g2, g3]
        case i38_0 => rfl
        go_simp
        go_at_call 36
        refine (HLen.out _ HBwA2.out).mono ?_
        rintro e w9 ⟨rfl, rfl⟩
        go_wp2_with fail
        refine hK.out _ _ (HBwA2.out) (fun hHeld => ?_)
        clear hK K'
        try simp only [Act.put, p1, p2, p3]
        refine tk1 4 (oi := ?o39) (v := ?v39) ?i39 ?w39 ?y39 ?r39
        case' i39 => simp only [g1, g2, g3]
        case i39 => rfl
        case w39 => kernel_rfl
        case y39 => (intro W hSw; go_simp) <;> with_reducible rfl
        try simp only [Act.put, p1, p2, p3]
        refine tk1 5 (oi := ?o40) (v := ?v40) ?i40 ?w40 ?y40 ?r40
        case' i40 => simp only [g1, g2, g3]
        case i40 => rfl
        case w40 => kernel_rfl
        case y40 => (intro W hSw; go_simp) <;> with_reducible rfl
        try simp only [Act.put, p1, p2, p3]
        refine tk1 10 (oi := ?o41) (v := ?v41) ?i41 ?w41 ?y41 ?r41
        case' i41 => simp only [g1, g2, g3]
        case i41 => rfl
        case w41 => kernel_rfl
        case y41 => (intro W hSw; go_simp) <;> with_reducible rfl
        try simp only [Act.put, p1, p2, p3]
        refine wpAnyH_ready (rs := [11]) (by kernel_rfl) (by simp) ?_
        refine (AllReadyH.cons (o := ?o42_0) ?i42_0 (fun K' hK => ?g42_0) AllReadyH.nil)
        case' i42_0 => simp only [g1, g2, g3]
        case i42_0 => rfl
        obtain ⟨zf0, zf1, zf2, zf3, zf4, zf5, zf6, zf7, zf8, zf9, zf10, zf11, zf12⟩ := cell13s HRX.out.1
        have zz0 := thaw_of (off := 0) HRX.out.1
        have zz1 := thaw_of (off := 1) HRX.out.1
        have zz2 := thaw_of (off := 2) HRX.out.1
        have zz3 := thaw_of (off := 3) HRX.out.1
        have zz4 := thaw_of (off := 4) HRX.out.1
        have zz5 := thaw_of (off := 5) HRX.out.1
        have zz6 := thaw_of (off := 6) HRX.out.1
        have zz7 := thaw_of (off := 7) HRX.out.1
        have zz8 := thaw_of (off := 8) HRX.out.1
        have zz9 := thaw_of (off := 9) HRX.out.1
        have zz10 := thaw_of (off := 10) HRX.out.1
        have zz11 := thaw_of (off := 11) HRX.out.1
        have zz12 := thaw_of (off := 12) HRX.out.1
        go_simp
        clear zf0 zf1 zf2 zf3 zf4 zf5 zf6 zf7 zf8 zf9 zf10 zf11 zf12 zz0 zz1 zz2 zz3 zz4 zz5 zz6 zz7 zz8 zz9 zz10 zz11 zz12
        show K' _ (wA2.setCells X 0 [.int .i64 (m.i 0), .int .u64 (m.i 1), .int .u64 (m.i 2), .string m.s, .int .i64 (m.i 4), .int .i64 (m.i 5), .int .i64 (m.i 6), .int .i64 (m.i 7), .int .i64 (m.i 8), .int .i64 (m.i 9), .int .i64 (m.i 10), .int .u64 (m.i 11), .int .u64 (m.i 12)])
        have HBwTX : Hid (Below wz.heap.size wz (wA2.setCells X 0 [.int .i64 (m.i 0), .int .u64 (m.i 1), .int .u64 (m.i 2), .string m.s, .int .i64 (m.i 4), .int .i64 (m.i 5), .int .i64 (m.i 6), .int .i64 (m.i 7), .int .i64 (m.i 8), .int .i64 (m.i 9), .int .i64 (m.i 10), .int .u64 (m.i 11), .int .u64 (m.i 12)])) := Lib.hid (HBwA2.out.trans ((chg_setCells X [.int .i64 (m.i 0), .int .u64 (m.i 1), .int .u64 (m.i 2), .string m.s, .int .i64 (m.i 4), .int .i64 (m.i 5), .int .i64 (m.i 6), .int .i64 (m.i 7), .int .i64 (m.i 8), .int .i64 (m.i 9), .int .i64 (m.i 10), .int .u64 (m.i 11), .int .u64 (m.i 12)] 0 wA2).below (fun k hk => by have := HRX.out.2; omega) HBwA2.out.size))
        have HSX : Hid ((wA2.setCells X 0 [.int .i64 (m.i 0), .int .u64 (m.i 1), .int .u64 (m.i 2), .string m.s, .int .i64 (m.i 4), .int .i64 (m.i 5), .int .i64 (m.i 6), .int .i64 (m.i 7), .int .i64 (m.i 8), .int .i64 (m.i 9), .int .i64 (m.i 10), .int .u64 (m.i 11), .int .u64 (m.i 12)]).heap[X]? = some (.cells #[.int .i64 (m.i 0), .int .u64 (m.i 1), .int .u64 (m.i 2), .string m.s, .int .i64 (m.i 4), .int .i64 (m.i 5), .int .i64 (m.i 6), .int .i64 (m.i 7), .int .i64 (m.i 8), .int .i64 (m.i 9), .int .i64 (m.i 10), .int .u64 (m.i 11), .int .u64 (m.i 12)] 25 (0, 0) : Obj) ∧ wz.heap.size ≤ X) := Lib.hid ⟨row_all [.int .i64 (m.i 0), .int .u64 (m.i 1), .int .u64 (m.i 2), .string m.s, .int .i64 (m.i 4), .int .i64 (m.i 5), .int .i64 (m.i 6), .int .i64 (m.i 7), .int .i64 (m.i 8), .int .i64 (m.i 9), .int .i64 (m.i 10), .int .u64 (m.i 11), .int .u64 (m.i 12)] HRX.out.1 rfl, HRX.out.2⟩
        replace HRY : Hid ((wA2.setCells X 0 [.int .i64 (m.i 0), .int .u64 (m.i 1), .int .u64 (m.i 2), .string m.s, .int .i64 (m.i 4), .int .i64 (m.i 5), .int .i64 (m.i 6), .int .i64 (m.i 7), .int .i64 (m.i 8), .int .i64 (m.i 9), .int .i64 (m.i 10), .int .u64 (m.i 11), .int .u64 (m.i 12)]).heap[Y]? = some (.cells #[.int .i64 0, .int .u64 0, .int .u64 0, .string ⟨#[]⟩, .int .i64 0, .int .i64 0, .int .i64 0, .int .i64 0, .int .i64 0, .int .i64 0, .int .i64 0, .int .u64 0, .int .u64 0] 25 (0, 0) : Obj) ∧ wz.heap.size ≤ Y) := Lib.hid ⟨((chg_setCells X [.int .i64 (m.i 0), .int .u64 (m.i 1), .int .u64 (m.i 2), .string m.s, .int .i64 (m.i 4), .int .i64 (m.i 5), .int .i64 (m.i 6), .int .i64 (m.i 7), .int .i64 (m.i 8), .int .i64 (m.i 9), .int .i64 (m.i 10), .int .u64 (m.i 11), .int .u64 (m.i 12)] 0 wA2).block Y (lt_some HRY.out.1) (fun e => HNE.out (by omega))).trans HRY.out.1, HRY.out.2⟩
        clear HRX
        refine hK.out _ _ HBwTX.out (fun hHeld => ?_)
        clear hK K' hHeld
        try simp only [Act.put, p1, p2, p3]
        generalize (wA2.setCells X 0 [.int .i64 (m.i 0), .int .u64 (m.i 1), .int .u64 (m.i 2), .string m.s, .int .i64 (m.i 4), .int .i64 (m.i 5), .int .i64 (m.i 6), .int .i64 (m.i 7), .int .i64 (m.i 8), .int .i64 (m.i 9), .int .i64 (m.i 10), .int .u64 (m.i 11), .int .u64 (m.i 12)]) = wTX at HBwTX HSX HRY ⊢
        have hHeld := HBwTX.out
        refine wpAnyH_ready (rs := [12]) (by kernel_rfl) (by simp) ?_
        refine (AllReadyH.cons (o := ?o43_0) ?i43_0 (fun K' hK => ?g43_0) AllReadyH.nil)
        case' i43_0 => simp only [g1, g2, g3]
        case i43_0 => rfl
        obtain ⟨zf0, zf1, zf2, zf3, zf4, zf5, zf6, zf7, zf8, zf9, zf10, zf11, zf12⟩ := cell13s HRY.out.1
        have zz0 := thaw_of (off := 0) HRY.out.1
        have zz1 := thaw_of (off := 1) HRY.out.1
        have zz2 := thaw_of (off := 2) HRY.out.1
        have zz3 := thaw_of (off := 3) HRY.out.1
        have zz4 := thaw_of (off := 4) HRY.out.1
        have zz5 := thaw_of (off := 5) HRY.out.1
        have zz6 := thaw_of (off := 6) HRY.out.1
        have zz7 := thaw_of (off := 7) HRY.out.1
        have zz8 := thaw_of (off := 8) HRY.out.1
        have zz9 := thaw_of (off := 9) HRY.out.1
        have zz10 := thaw_of (off := 10) HRY.out.1
        have zz11 := thaw_of (off := 11) HRY.out.1
        have zz12 := thaw_of (off := 12) HRY.out.1
        go_simp
        clear zf0 zf1 zf2 zf3 zf4 zf5 zf6 zf7 zf8 zf9 zf10 zf11 zf12 zz0 zz1 zz2 zz3 zz4 zz5 zz6 zz7 zz8 zz9 zz10 zz11 zz12
        show K' _ (wTX.setCells Y 0 [.int .i64 (r.i 0), .int .u64 (r.i 1), .int .u64 (r.i 2), .string r.s, .int .i64 (r.i 4), .int .i64 (r.i 5), .int .i64 (r.i 6), .int .i64 (r.i 7), .int .i64 (r.i 8), .int .i64 (r.i 9), .int .i64 (r.i 10), .int .u64 (r.i 11), .int .u64 (r.i 12)])
        have HBwTY : Hid (Below wz.heap.size wz (wTX.setCells Y 0 [.int .i64 (r.i 0), .int .u64 (r.i 1), .int .u64 (r.i 2), .string r.s, .int .i64 (r.i 4), .int .i64 (r.i 5), .int .i64 (r.i 6), .int .i64 (r.i 7), .int .i64 (r.i 8), .int .i64 (r.i 9), .int .i64 (r.i 10), .int .u64 (r.i 11), .int .u64 (r.i 12)])) := Lib.hid (HBwTX.out.trans ((chg_setCells Y [.int .i64 (r.i 0), .int .u64 (r.i 1), .int .u64 (r.i 2), .string r.s, .int .i64 (r.i 4), .int .i64 (r.i 5), .int .i64 (r.i 6), .int .i64 (r.i 7), .int .i64 (r.i 8), .int .i64 (r.i 9), .int .i64 (r.i 10), .int .u64 (r.i 11), .int .u64 (r.i 12)] 0 wTX).below (fun k hk => by have := HRY.out.2; omega) HBwTX.out.size))
        have HSY : Hid ((wTX.setCells Y 0 [.int .i64 (r.i 0), .int .u64 (r.i 1), .int .u64 (r.i 2), .string r.s, .int .i64 (r.i 4), .int .i64 (r.i 5), .int .i64 (r.i 6), .int .i64 (r.i 7), .int .i64 (r.i 8), .int .i64 (r.i 9), .int .i64 (r.i 10), .int .u64 (r.i 11), .int .u64 (r.i 12)]).heap[Y]? = some (.cells #[.int .i64 (r.i 0), .int .u64 (r.i 1), .int .u64 (r.i 2), .string r.s, .int .i64 (r.i 4), .int .i64 (r.i 5), .int .i64 (r.i 6), .int .i64 (r.i 7), .int .i64 (r.i 8), .int .i64 (r.i 9), .int .i64 (r.i 10), .int .u64 (r.i 11), .int .u64 (r.i 12)] 25 (0, 0) : Obj) ∧ wz.heap.size ≤ Y) := Lib.hid ⟨row_all [.int .i64 (r.i 0), .int .u64 (r.i 1), .int .u64 (r.i 2), .string r.s, .int .i64 (r.i 4), .int .i64 (r.i 5), .int .i64 (r.i 6), .int .i64 (r.i 7), .int .i64 (r.i 8), .int .i64 (r.i 9), .int .i64 (r.i 10), .int .u64 (r.i 11), .int .u64 (r.i 12)] HRY.out.1 rfl, HRY.out.2⟩
        replace HSX : Hid ((wTX.setCells Y 0 [.int .i64 (r.i 0), .int .u64 (r.i 1), .int .u64 (r.i 2), .string r.s, .int .i64 (r.i 4), .int .i64 (r.i 5), .int .i64 (r.i 6), .int .i64 (r.i 7), .int .i64 (r.i 8), .int .i64 (r.i 9), .int .i64 (r.i 10), .int .u64 (r.i 11), .int .u64 (r.i 12)]).heap[X]? = some (.cells #[.int .i64 (m.i 0), .int .u64 (m.i 1), .int .u64 (m.i 2), .string m.s, .int .i64 (m.i 4), .int .i64 (m.i 5), .int .i64 (m.i 6), .int .i64 (m.i 7), .int .i64 (m.i 8), .int .i64 (m.i 9), .int .i64 (m.i 10), .int .u64 (m.i 11), .int .u64 (m.i 12)] 25 (0, 0) : Obj) ∧ wz.heap.size ≤ X) := Lib.hid ⟨((chg_setCells Y [.int .i64 (r.i 0), .int .u64 (r.i 1), .int .u64 (r.i 2), .string r.s, .int .i64 (r.i 4), .int .i64 (r.i 5), .int .i64 (r.i 6), .int .i64 (r.i 7), .int .i64 (r.i 8), .int .i64 (r.i 9), .int .i64 (r.i 10), .int .u64 (r.i 11), .int .u64 (r.i 12)] 0 wTX).block X (lt_some HSX.out.1) (fun e => HNE.out (by omega))).trans HSX.out.1, HSX.out.2⟩
        clear HRY
        refine hK.out _ _ HBwTY.out (fun hHeld => ?_)
        clear hK K' hHeld
        try simp only [Act.put, p1, p2, p3]
        generalize (wTX.setCells Y 0 [.int .i64 (r.i 0), .int .u64 (r.i 1), .int .u64 (r.i 2), .string r.s, .int .i64 (r.i 4), .int .i64 (r.i 5), .int .i64 (r.i 6), .int .i64 (r.i 7), .int .i64 (r.i 8), .int .i64 (r.i 9), .int .i64 (r.i 10), .int .u64 (r.i 11), .int .u64 (r.i 12)]) = wTY at HBwTY HSY HSX ⊢
        have hHeld := HBwTY.out
        refine wpAnyH_done (by kernel_rfl) ?_ _
        go_wp2_with fail
        go_meet
        exact ⟨X, Y, congrArg (Value.int IntKind.i64) eI.out, rfl, rfl, HNE.out, HSX.out.2, HSY.out.2, HBwTY, HSX, HSY⟩
  case rest =>
    obtain ⟨X, Y, rfl, rfl, rfl, hne, hX, hY, HBx, HSX, HSY⟩ := hcut
    have HNE := Lib.hid hne
    clear hne hX hY
    go_upto_block 0 with fail
    go_cut [82] from 83 to 173 (fun x82 wx => x82 = x82 ∧ ∃ (x y : Mg) (wo : Opd) (h : Int) (L4 : List Tm) (v : Ses) (i : Int) (L5 : List Tm), Hid (BindIs m r q L3 x y wo h L4 v i L5) ∧ Hid (Below wz.heap.size wz wx) ∧ Hid (wx.heap[X]? = some (.cells #[.int .i64 (x.i 0), .int .u64 (x.i 1), .int .u64 (x.i 2), .string x.s, .int .i64 (x.i 4), .int .i64 (x.i 5), .int .i64 (x.i 6), .int .i64 (x.i 7), .int .i64 (x.i 8), .int .i64 (x.i 9), .int .i64 (x.i 10), .int .u64 (x.i 11), .int .u64 (x.i 12)] 25 (0, 0) : Obj) ∧ wz.heap.size ≤ X) ∧ Hid (wx.heap[Y]? = some (.cells #[.int .i64 (y.i 0), .int .u64 (y.i 1), .int .u64 (y.i 2), .string y.s, .int .i64 (y.i 4), .int .i64 (y.i 5), .int .i64 (y.i 6), .int .i64 (y.i 7), .int .i64 (y.i 8), .int .i64 (y.i 9), .int .i64 (y.i 10), .int .u64 (y.i 11), .int .u64 (y.i 12)] 25 (0, 0) : Obj) ∧ wz.heap.size ≤ Y))
    case first =>
      obtain ⟨wo, h, L4, v, i, L5, HBI⟩ := B.out
      have HBI := Lib.hid HBI
      have h9 := h9.out
      match wh, h9 with
      | 0, _ =>
        obtain ⟨zf0, zf1, zf2, zf3, zf4, zf5, zf6, zf7, zf8, zf9, zf10, zf11, zf12⟩ := cell13s HSX.out.1
        have zz := thaw_of (off := 3) HSX.out.1
        go_wp2_with fail
        clear zz zf0 zf1 zf2 zf3 zf4 zf5 zf6 zf7 zf8 zf9 zf10 zf11 zf12
        go_meet
        exact ⟨trivial, xOf m k 0, yOf r k 0, wo, h, L4, v, i, L5, HBI, Lib.hid (HBx.out.trans ((chg_one wc X 3 (.string ⟨#[1]⟩)).below (fun k hk => by have := HSX.out.2; omega) HBx.out.size)), Lib.hid ⟨heap_setCell_same wc X 3 _ _ (.string ⟨#[1]⟩) HSX.out.1, HSX.out.2⟩, Lib.hid ⟨((chg_one wc X 3 (.string ⟨#[1]⟩)).block Y (lt_some HSY.out.1) (fun e => HNE.out (by omega))).trans HSY.out.1, HSY.out.2⟩⟩
      | 1, _ =>
        obtain ⟨zf0, zf1, zf2, zf3, zf4, zf5, zf6, zf7, zf8, zf9, zf10, zf11, zf12⟩ := cell13s HSX.out.1
        have zz := thaw_of (off := 4) HSX.out.1
        go_wp2_with fail
        clear zz zf0 zf1 zf2 zf3 zf4 zf5 zf6 zf7 zf8 zf9 zf10 zf11 zf12
        go_meet
        exact ⟨trivial, xOf m k 1, yOf r k 1, wo, h, L4, v, i, L5, HBI, Lib.hid (HBx.out.trans ((chg_one wc X 4 (.int .i64 1)).below (fun k hk => by have := HSX.out.2; omega) HBx.out.size)), Lib.hid ⟨heap_setCell_same wc X 4 _ _ (.int .i64 1) HSX.out.1, HSX.out.2⟩, Lib.hid ⟨((chg_one wc X 4 (.int .i64 1)).block Y (lt_some HSY.out.1) (fun e => HNE.out (by omega))).trans HSY.out.1, HSY.out.2⟩⟩
      | 2, _ =>
        obtain ⟨zf0, zf1, zf2, zf3, zf4, zf5, zf6, zf7, zf8, zf9, zf10, zf11, zf12⟩ := cell13s HSX.out.1
        have zz := thaw_of (off := 6) HSX.out.1
        go_wp2_with fail
        clear zz zf0 zf1 zf2 zf3 zf4 zf5 zf6 zf7 zf8 zf9 zf10 zf11 zf12
        go_meet
        exact ⟨trivial, xOf m k 2, yOf r k 2, wo, h, L4, v, i, L5, HBI, Lib.hid (HBx.out.trans ((chg_one wc X 6 (.int .i64 k)).below (fun k hk => by have := HSX.out.2; omega) HBx.out.size)), Lib.hid ⟨heap_setCell_same wc X 6 _ _ (.int .i64 k) HSX.out.1, HSX.out.2⟩, Lib.hid ⟨((chg_one wc X 6 (.int .i64 k)).block Y (lt_some HSY.out.1) (fun e => HNE.out (by omega))).trans HSY.out.1, HSY.out.2⟩⟩
      | 3, _ =>
        obtain ⟨zf0, zf1, zf2, zf3, zf4, zf5, zf6, zf7, zf8, zf9, zf10, zf11, zf12⟩ := cell13s HSX.out.1
        have zz := thaw_of (off := 7) HSX.out.1
        go_wp2_with fail
        clear zz zf0 zf1 zf2 zf3 zf4 zf5 zf6 zf7 zf8 zf9 zf10 zf11 zf12
        go_meet
        exact ⟨trivial, xOf m k 3, yOf r k 3, wo, h, L4, v, i, L5, HBI, Lib.hid (HBx.out.trans ((chg_one wc X 7 (.int .i64 k)).below (fun k hk => by have := HSX.out.2; omega) HBx.out.size)), Lib.hid ⟨heap_setCell_same wc X 7 _ _ (.int .i64 k) HSX.out.1, HSX.out.2⟩, Lib.hid ⟨((chg_one wc X 7 (.int .i64 k)).block Y (lt_some HSY.out.1) (fun e => HNE.out (by omega))).trans HSY.out.1, HSY.out.2⟩⟩
      | 4, _ =>
        obtain ⟨zf0, zf1, zf2, zf3, zf4, zf5, zf6, zf7, zf8, zf9, zf10, zf11, zf12⟩ := cell13s HSX.out.1
        have zz := thaw_of (off := 8) HSX.out.1
        go_wp2_with fail
        clear zz zf0 zf1 zf2 zf3 zf4 zf5 zf6 zf7 zf8 zf9 zf10 zf11 zf12
        go_meet
        exact ⟨trivial, xOf m k 4, yOf r k 4, wo, h, L4, v, i, L5, HBI, Lib.hid (HBx.out.trans ((chg_one wc X 8 (.int .i64 k)).below (fun k hk => by have := HSX.out.2; omega) HBx.out.size)), Lib.hid ⟨heap_setCell_same wc X 8 _ _ (.int .i64 k) HSX.out.1, HSX.out.2⟩, Lib.hid ⟨((chg_one wc X 8 (.int .i64 k)).block Y (lt_some HSY.out.1) (fun e => HNE.out (by omega))).trans HSY.out.1, HSY.out.2⟩⟩
      | 5, _ =>
        obtain ⟨zf0, zf1, zf2, zf3, zf4, zf5, zf6, zf7, zf8, zf9, zf10, zf11, zf12⟩ := cell13s HSX.out.1
        have zz := thaw_of (off := 9) HSX.out.1
        go_wp2_with fail
        clear zz zf0 zf1 zf2 zf3 zf4 zf5 zf6 zf7 zf8 zf9 zf10 zf11 zf12
        go_meet
        exact ⟨trivial, xOf m k 5, yOf r k 5, wo, h, L4, v, i, L5, HBI, Lib.hid (HBx.out.trans ((chg_one wc X 9 (.int .i64 k)).below (fun k hk => by have := HSX.out.2; omega) HBx.out.size)), Lib.hid ⟨heap_setCell_same wc X 9 _ _ (.int .i64 k) HSX.out.1, HSX.out.2⟩, Lib.hid ⟨((chg_one wc X 9 (.int .i64 k)).block Y (lt_some HSY.out.1) (fun e => HNE.out (by omega))).trans HSY.out.1, HSY.out.2⟩⟩
      | 6, _ =>
        obtain ⟨zf0, zf1, zf2, zf3, zf4, zf5, zf6, zf7, zf8, zf9, zf10, zf11, zf12⟩ := cell13s HSX.out.1
        have zz := thaw_of (off := 10) HSX.out.1
        go_wp2_with fail
        clear zz zf0 zf1 zf2 zf3 zf4 zf5 zf6 zf7 zf8 zf9 zf10 zf11 zf12
        go_meet
        exact ⟨trivial, xOf m k 6, yOf r k 6, wo, h, L4, v, i, L5, HBI, Lib.hid (HBx.out.trans ((chg_one wc X 10 (.int .i64 k)).below (fun k hk => by have := HSX.out.2; omega) HBx.out.size)), Lib.hid ⟨heap_setCell_same wc X 10 _ _ (.int .i64 k) HSX.out.1, HSX.out.2⟩, Lib.hid ⟨((chg_one wc X 10 (.int .i64 k)).block Y (lt_some HSY.out.1) (fun e => HNE.out (by omega))).trans HSY.out.1, HSY.out.2⟩⟩
      | 7, _ =>
        obtain ⟨zf0, zf1, zf2, zf3, zf4, zf5, zf6, zf7, zf8, zf9, zf10, zf11, zf12⟩ := cell13s HSY.out.1
        have zz := thaw_of (off := 6) HSY.out.1
        go_wp2_with fail
        clear zz zf0 zf1 zf2 zf3 zf4 zf5 zf6 zf7 zf8 zf9 zf10 zf11 zf12
        go_meet
        exact ⟨trivial, xOf m k 7, yOf r k 7, wo, h, L4, v, i, L5, HBI, Lib.hid (HBx.out.trans ((chg_one wc Y 6 (.int .i64 k)).below (fun k hk => by have := HSY.out.2; omega) HBx.out.size)), Lib.hid ⟨((chg_one wc Y 6 (.int .i64 k)).block X (lt_some HSX.out.1) (fun e => HNE.out (by omega))).trans HSX.out.1, HSX.out.2⟩, Lib.hid ⟨heap_setCell_same wc Y 6 _ _ (.int .i64 k) HSY.out.1, HSY.out.2⟩⟩
      | 8, _ =>
        obtain ⟨zf0, zf1, zf2, zf3, zf4, zf5, zf6, zf7, zf8, zf9, zf10, zf11, zf12⟩ := cell13s HSY.out.1
        have zz := thaw_of (off := 9) HSY.out.1
        go_wp2_with fail
        clear zz zf0 zf1 zf2 zf3 zf4 zf5 zf6 zf7 zf8 zf9 zf10 zf11 zf12
        go_meet
        exact ⟨trivial, xOf m k 8, yOf r k 8, wo, h, L4, v, i, L5, HBI, Lib.hid (HBx.out.trans ((chg_one wc Y 9 (.int .i64 k)).below (fun k hk => by have := HSY.out.2; omega) HBx.out.size)), Lib.hid ⟨((chg_one wc Y 9 (.int .i64 k)).block X (lt_some HSX.out.1) (fun e => HNE.out (by omega))).trans HSX.out.1, HSX.out.2⟩, Lib.hid ⟨heap_setCell_same wc Y 9 _ _ (.int .i64 k) HSY.out.1, HSY.out.2⟩⟩
      | n + 9, q => exact absurd q (by omega)
    case rest =>
      obtain ⟨_, x, y, wo, h, L4, v, i, L5, HBI, HB2, HS2, HT2⟩ := hcut
      clear HBx HSX HSY
      have HC := Lib.hid (HC.out.more (news := [(X, (.cells #[.int .i64 (x.i 0), .int .u64 (x.i 1), .int .u64 (x.i 2), .string x.s, .int .i64 (x.i 4), .int .i64 (x.i 5), .int .i64 (x.i 6), .int .i64 (x.i 7), .int .i64 (x.i 8), .int .i64 (x.i 9), .int .i64 (x.i 10), .int .u64 (x.i 11), .int .u64 (x.i 12)] 25 (0, 0) : Obj)), (Y, (.cells #[.int .i64 (y.i 0), .int .u64 (y.i 1), .int .u64 (y.i 2), .string y.s, .int .i64 (y.i 4), .int .i64 (y.i 5), .int .i64 (y.i 6), .int .i64 (y.i 7), .int .i64 (y.i 8), .int .i64 (y.i 9), .int .i64 (y.i 10), .int .u64 (y.i 11), .int .u64 (y.i 12)] 25 (0, 0) : Obj))]) gP gN HB2.out (by simp only [List.mem_cons, List.not_mem_nil, or_false]; rintro z (rfl | rfl); exact ⟨HS2.out.2, HS2.out.1⟩; exact ⟨HT2.out.2, HT2.out.1⟩))
      clear HB2 HS2 HT2
      obtain ⟨meg0, meg1, meg2, meg3⟩ := cell4s (HC.out.kept (w1.heap.size) (.cells #[.int .i64 1, .int .i64 2, .int .i64 3, .int .i64 4] 90 (0, 0) : Obj) (by simp [HMme.out]))
      obtain ⟨ppg0, ppg1, ppg2, ppg3, ppg4, ppg5, ppg6, ppg7⟩ := cell8s (HC.out.kept (w1.heap.size + 1) (.cells #[.int .i64 17, .int .i64 18, .int .i64 5, .int .i64 6, .int .i64 15, .int .i64 16, .int .i64 5, .int .i64 6] 91 (0, 0) : Obj) (by simp [HMpp.out]))
      replace HC := Lib.hid (HC.out.boxB gP gN #[.int .i64 15, .int .i64 16, .int .i64 5, .int .i64 6] 43 (b := wc.heap.size) (by simp))
      obtain ⟨xf0, xf1, xf2, xf3, xf4, xf5, xf6, xf7, xf8, xf9, xf10, xf11, xf12⟩ := cell13s (HC.out.kept (X) (.cells #[.int .i64 (x.i 0), .int .u64 (x.i 1), .int .u64 (x.i 2), .string x.s, .int .i64 (x.i 4), .int .i64 (x.i 5), .int .i64 (x.i 6), .int .i64 (x.i 7), .int .i64 (x.i 8), .int .i64 (x.i 9), .int .i64 (x.i 10), .int .u64 (x.i 11), .int .u64 (x.i 12)] 25 (0, 0) : Obj) (by simp))
      go_wp2_with fail
      clear meg0 meg1 meg2 meg3 ppg0 ppg1 ppg2 ppg3 ppg4 ppg5 ppg6 ppg7 xf0 xf1 xf2 xf3 xf4 xf5 xf6 xf7 xf8 xf9 xf10 xf11 xf12
      have HR : ∀ bs, ((wc.heap.size, (.cells #[.int .i64 15, .int .i64 16, .int .i64 5, .int .i64 6] 43 (0, 0) : Obj)) : Nat × Obj) ∈ bs → RowB bs (some ⟨wc.heap.size, 0, none⟩) [pA] := fun bs hm W hk => row_one (p := pA) (hk (wc.heap.size) (.cells #[.int .i64 15, .int .i64 16, .int .i64 5, .int .i64 6] 43 (0, 0) : Obj) hm)
      refine (HC.out.hopen gN (x := 3) (y := 4) (ps := [pA]) (offer := ⟨#[3, 2, 1]⟩) k3 k4 (by rfl) (by decide) (HR _ (by simp)) (by simp; exact pA_wf) (by decide) HBI.out.xw HBI.out.c4).mono ?_
      rintro e w101 ⟨rfl, hh⟩
      replace HC := Lib.hid hh
      clear hh HR
      simp only [Opd.v]
      replace HC := Lib.hid (HC.out.boxB gP gN #[.int .i64 wo.y.CK, .int .i64 wo.y.K, .int .i64 wo.y.H, .int .u64 wo.y.N, .int .i64 wo.peer, .int .i64 wo.version, .int .u64 wo.stamp, .int .i64 wo.e, .int .i64 wo.ek, .int .i64 wo.pub] 64 (b := w101.heap.size) (by simp))
      obtain ⟨mef0, mef1, mef2, mef3⟩ := cell4s (HC.out.kept (w1.heap.size) (.cells #[.int .i64 1, .int .i64 2, .int .i64 3, .int .i64 4] 90 (0, 0) : Obj) (by simp [HMme.out]))
      obtain ⟨qf0, qf1, qf2, qf3, qf4, qf5, qf6⟩ := cell7s (HC.out.kept (w2.heap.size + 1) (.cells #[.int .i64 q.y.CK, .int .i64 q.y.K, .int .i64 q.y.H, .int .u64 q.y.N, .int .i64 q.e, .int .i64 q.ek, .string q.offer] 47 (0, 0) : Obj) (by simp [HMq.out]))
      obtain ⟨yf0, yf1, yf2, yf3, yf4, yf5, yf6, yf7, yf8, yf9, yf10, yf11, yf12⟩ := cell13s (HC.out.kept (Y) (.cells #[.int .i64 (y.i 0), .int .u64 (y.i 1), .int .u64 (y.i 2), .string y.s, .int .i64 (y.i 4), .int .i64 (y.i 5), .int .i64 (y.i 6), .int .i64 (y.i 7), .int .i64 (y.i 8), .int .i64 (y.i 9), .int .i64 (y.i 10), .int .u64 (y.i 11), .int .u64 (y.i 12)] 25 (0, 0) : Obj) (by simp))
      go_wp2_with fail
      clear mef0 mef1 mef2 mef3 qf0 qf1 qf2 qf3 qf4 qf5 qf6 yf0 yf1 yf2 yf3 yf4 yf5 yf6 yf7 yf8 yf9 yf10 yf11 yf12
      refine (HC.out.hfinish gN (x := 1) (y := 2) (p := q) (m := y) k1 S.out.qy ⟨S.out.qe, S.out.qk⟩ HBI.out.yw HBI.out.c5).mono ?_
      rintro e w102 ⟨rfl, hh⟩
      replace HC := Lib.hid hh
      clear hh
      simp only [Ses.v]
      replace HC := Lib.hid (HC.out.boxB gP gN #[.int .i64 v.h, .int .i64 v.send, .int .i64 v.recv, .int .i64 v.version] 75 (b := w102.heap.size) (by simp))
      go_upto_region 32 with fail
      replace HC := Lib.hid (HC.out.boxB gP gN #[.int .i64 0, .int .i64 0, .int .i64 0, .int .u64 0, .int .i64 0, .int .i64 0, .int .u64 0, .int .i64 0, .int .i64 0, .int .i64 0] 64 (b := w102.heap.size + 1) (by simp))
      replace HC := Lib.hid (HC.out.boxB gP gN #[.int .i64 0, .int .i64 0, .int .i64 0, .int .i64 0] 75 (b := w102.heap.size + 1 + 1) (by simp))
      generalize hww : (((w102.alloc (.cells #[.int .i64 v.h, .int .i64 v.send, .int .i64 v.recv, .int .i64 v.version] 75 (0, 0) : Obj)).alloc (.cells #[.int .i64 0, .int .i64 0, .int .i64 0, .int .u64 0, .int .i64 0, .int .i64 0, .int .u64 0, .int .i64 0, .int .i64 0, .int .i64 0] 64 (0, 0) : Obj)).alloc (.cells #[.int .i64 0, .int .i64 0, .int .i64 0, .int .i64 0] 75 (0, 0) : Obj)) = ww at HC ⊢
      clear hww
      by_cases h0 : h = 0 <;> by_cases i0 : i = 0
      · subst h0
        subst i0
        have ex : Ms.eqM x m = true := by rw [HBI.out.ex]; simp
        have ey : Ms.eqM y r = true := by rw [HBI.out.ey]; simp
        have tx := fun u : World => (show (binOp .eql 25 (.agg #[.int .i64 (x.i 0), .int .u64 (x.i 1), .int .u64 (x.i 2), .string x.s, .int .i64 (x.i 4), .int .i64 (x.i 5), .int .i64 (x.i 6), .int .i64 (x.i 7), .int .i64 (x.i 8), .int .i64 (x.i 9), .int .i64 (x.i 10), .int .u64 (x.i 11), .int .u64 (x.i 12)]) (.agg #[.int .i64 (m.i 0), .int .u64 (m.i 1), .int .u64 (m.i 2), .string m.s, .int .i64 (m.i 4), .int .i64 (m.i 5), .int .i64 (m.i 6), .int .i64 (m.i 7), .int .i64 (m.i 8), .int .i64 (m.i 9), .int .i64 (m.i 10), .int .u64 (m.i 11), .int .u64 (m.i 12)])).run Tryz.prog u = .ok (.bool true) u by have := Ms.eqlP x m u; rw [ex] at this; exact this)
        have ty := fun u : World => (show (binOp .eql 25 (.agg #[.int .i64 (y.i 0), .int .u64 (y.i 1), .int .u64 (y.i 2), .string y.s, .int .i64 (y.i 4), .int .i64 (y.i 5), .int .i64 (y.i 6), .int .i64 (y.i 7), .int .i64 (y.i 8), .int .i64 (y.i 9), .int .i64 (y.i 10), .int .u64 (y.i 11), .int .u64 (y.i 12)]) (.agg #[.int .i64 (r.i 0), .int .u64 (r.i 1), .int .u64 (r.i 2), .string r.s, .int .i64 (r.i 4), .int .i64 (r.i 5), .int .i64 (r.i 6), .int .i64 (r.i 7), .int .i64 (r.i 8), .int .i64 (r.i 9), .int .i64 (r.i 10), .int .u64 (r.i 11), .int .u64 (r.i 12)])).run Tryz.prog u = .ok (.bool true) u by have := Ms.eqlP y r u; rw [ey] at this; exact this)
        clear ex ey
        obtain ⟨xf0, xf1, xf2, xf3, xf4, xf5, xf6, xf7, xf8, xf9, xf10, xf11, xf12⟩ := cell13s (HC.out.kept (X) (.cells #[.int .i64 (x.i 0), .int .u64 (x.i 1), .int .u64 (x.i 2), .string x.s, .int .i64 (x.i 4), .int .i64 (x.i 5), .int .i64 (x.i 6), .int .i64 (x.i 7), .int .i64 (x.i 8), .int .i64 (x.i 9), .int .i64 (x.i 10), .int .u64 (x.i 11), .int .u64 (x.i 12)] 25 (0, 0) : Obj) (by simp))
        obtain ⟨mf0, mf1, mf2, mf3, mf4, mf5, mf6, mf7, mf8, mf9, mf10, mf11, mf12⟩ := cell13s (HC.out.kept (w2.heap.size) (.cells #[.int .i64 (m.i 0), .int .u64 (m.i 1), .int .u64 (m.i 2), .string m.s, .int .i64 (m.i 4), .int .i64 (m.i 5), .int .i64 (m.i 6), .int .i64 (m.i 7), .int .i64 (m.i 8), .int .i64 (m.i 9), .int .i64 (m.i 10), .int .u64 (m.i 11), .int .u64 (m.i 12)] 25 (0, 0) : Obj) (by simp [HMm.out]))
        obtain ⟨wof0, wof1, wof2, wof3, wof4, wof5, wof6, wof7, wof8, wof9⟩ := cell10s (HC.out.kept (w101.heap.size) (.cells #[.int .i64 wo.y.CK, .int .i64 wo.y.K, .int .i64 wo.y.H, .int .u64 wo.y.N, .int .i64 wo.peer, .int .i64 wo.version, .int .u64 wo.stamp, .int .i64 wo.e, .int .i64 wo.ek, .int .i64 wo.pub] 64 (0, 0) : Obj) (by simp))
        obtain ⟨zof0, zof1, zof2, zof3, zof4, zof5, zof6, zof7, zof8, zof9⟩ := cell10s (HC.out.kept (w102.heap.size + 1) (.cells #[.int .i64 0, .int .i64 0, .int .i64 0, .int .u64 0, .int .i64 0, .int .i64 0, .int .u64 0, .int .i64 0, .int .i64 0, .int .i64 0] 64 (0, 0) : Obj) (by simp))
        obtain ⟨yf0, yf1, yf2, yf3, yf4, yf5, yf6, yf7, yf8, yf9, yf10, yf11, yf12⟩ := cell13s (HC.out.kept (Y) (.cells #[.int .i64 (y.i 0), .int .u64 (y.i 1), .int .u64 (y.i 2), .string y.s, .int .i64 (y.i 4), .int .i64 (y.i 5), .int .i64 (y.i 6), .int .i64 (y.i 7), .int .i64 (y.i 8), .int .i64 (y.i 9), .int .i64 (y.i 10), .int .u64 (y.i 11), .int .u64 (y.i 12)] 25 (0, 0) : Obj) (by simp))
        obtain ⟨rf0, rf1, rf2, rf3, rf4, rf5, rf6, rf7, rf8, rf9, rf10, rf11, rf12⟩ := cell13s (HC.out.kept (w4.heap.size) (.cells #[.int .i64 (r.i 0), .int .u64 (r.i 1), .int .u64 (r.i 2), .string r.s, .int .i64 (r.i 4), .int .i64 (r.i 5), .int .i64 (r.i 6), .int .i64 (r.i 7), .int .i64 (r.i 8), .int .i64 (r.i 9), .int .i64 (r.i 10), .int .u64 (r.i 11), .int .u64 (r.i 12)] 25 (0, 0) : Obj) (by simp [HMr.out]))
        obtain ⟨vf0, vf1, vf2, vf3⟩ := cell4s (HC.out.kept (w102.heap.size) (.cells #[.int .i64 v.h, .int .i64 v.send, .int .i64 v.recv, .int .i64 v.version] 75 (0, 0) : Obj) (by simp))
        obtain ⟨zsf0, zsf1, zsf2, zsf3⟩ := cell4s (HC.out.kept (w102.heap.size + 1 + 1) (.cells #[.int .i64 0, .int .i64 0, .int .i64 0, .int .i64 0] 75 (0, 0) : Obj) (by simp))
        go_wp2_with fail
        clear xf0 xf1 xf2 xf3 xf4 xf5 xf6 xf7 xf8 xf9 xf10 xf11 xf12 mf0 mf1 mf2 mf3 mf4 mf5 mf6 mf7 mf8 mf9 mf10 mf11 mf12 wof0 wof1 wof2 wof3 wof4 wof5 wof6 wof7 wof8 wof9 zof0 zof1 zof2 zof3 zof4 zof5 zof6 zof7 zof8 zof9 yf0 yf1 yf2 yf3 yf4 yf5 yf6 yf7 yf8 yf9 yf10 yf11 yf12 rf0 rf1 rf2 rf3 rf4 rf5 rf6 rf7 rf8 rf9 rf10 rf11 rf12 vf0 vf1 vf2 vf3 zsf0 zsf1 zsf2 zsf3
        refine (fixed_any _).mono ?_
        rintro e w' ⟨rfl, hb⟩
        go_wp2_with fail
        go_ret
        exact ⟨rfl, HC.out.low.trans (hb.mono HC.out.low.size)⟩
      · subst h0
        obtain rfl := HBI.out.zv i0
        simp only [zeroSes] at HC
        have z2 : (i == 0) = false := by simpa using i0
        have ex : Ms.eqM x m = true := by rw [HBI.out.ex]; simp
        have ey : Ms.eqM y r = false := by rw [HBI.out.ey]; simp; exact i0
        have tx := fun u : World => (show (binOp .eql 25 (.agg #[.int .i64 (x.i 0), .int .u64 (x.i 1), .int .u64 (x.i 2), .string x.s, .int .i64 (x.i 4), .int .i64 (x.i 5), .int .i64 (x.i 6), .int .i64 (x.i 7), .int .i64 (x.i 8), .int .i64 (x.i 9), .int .i64 (x.i 10), .int .u64 (x.i 11), .int .u64 (x.i 12)]) (.agg #[.int .i64 (m.i 0), .int .u64 (m.i 1), .int .u64 (m.i 2), .string m.s, .int .i64 (m.i 4), .int .i64 (m.i 5), .int .i64 (m.i 6), .int .i64 (m.i 7), .int .i64 (m.i 8), .int .i64 (m.i 9), .int .i64 (m.i 10), .int .u64 (m.i 11), .int .u64 (m.i 12)])).run Tryz.prog u = .ok (.bool true) u by have := Ms.eqlP x m u; rw [ex] at this; exact this)
        have ty := fun u : World => (show (binOp .eql 25 (.agg #[.int .i64 (y.i 0), .int .u64 (y.i 1), .int .u64 (y.i 2), .string y.s, .int .i64 (y.i 4), .int .i64 (y.i 5), .int .i64 (y.i 6), .int .i64 (y.i 7), .int .i64 (y.i 8), .int .i64 (y.i 9), .int .i64 (y.i 10), .int .u64 (y.i 11), .int .u64 (y.i 12)]) (.agg #[.int .i64 (r.i 0), .int .u64 (r.i 1), .int .u64 (r.i 2), .string r.s, .int .i64 (r.i 4), .int .i64 (r.i 5), .int .i64 (r.i 6), .int .i64 (r.i 7), .int .i64 (r.i 8), .int .i64 (r.i 9), .int .i64 (r.i 10), .int .u64 (r.i 11), .int .u64 (r.i 12)])).run Tryz.prog u = .ok (.bool false) u by have := Ms.eqlP y r u; rw [ey] at this; exact this)
        clear ex ey i0
        obtain ⟨xf0, xf1, xf2, xf3, xf4, xf5, xf6, xf7, xf8, xf9, xf10, xf11, xf12⟩ := cell13s (HC.out.kept (X) (.cells #[.int .i64 (x.i 0), .int .u64 (x.i 1), .int .u64 (x.i 2), .string x.s, .int .i64 (x.i 4), .int .i64 (x.i 5), .int .i64 (x.i 6), .int .i64 (x.i 7), .int .i64 (x.i 8), .int .i64 (x.i 9), .int .i64 (x.i 10), .int .u64 (x.i 11), .int .u64 (x.i 12)] 25 (0, 0) : Obj) (by simp))
        obtain ⟨mf0, mf1, mf2, mf3, mf4, mf5, mf6, mf7, mf8, mf9, mf10, mf11, mf12⟩ := cell13s (HC.out.kept (w2.heap.size) (.cells #[.int .i64 (m.i 0), .int .u64 (m.i 1), .int .u64 (m.i 2), .string m.s, .int .i64 (m.i 4), .int .i64 (m.i 5), .int .i64 (m.i 6), .int .i64 (m.i 7), .int .i64 (m.i 8), .int .i64 (m.i 9), .int .i64 (m.i 10), .int .u64 (m.i 11), .int .u64 (m.i 12)] 25 (0, 0) : Obj) (by simp [HMm.out]))
        obtain ⟨wof0, wof1, wof2, wof3, wof4, wof5, wof6, wof7, wof8, wof9⟩ := cell10s (HC.out.kept (w101.heap.size) (.cells #[.int .i64 wo.y.CK, .int .i64 wo.y.K, .int .i64 wo.y.H, .int .u64 wo.y.N, .int .i64 wo.peer, .int .i64 wo.version, .int .u64 wo.stamp, .int .i64 wo.e, .int .i64 wo.ek, .int .i64 wo.pub] 64 (0, 0) : Obj) (by simp))
        obtain ⟨zof0, zof1, zof2, zof3, zof4, zof5, zof6, zof7, zof8, zof9⟩ := cell10s (HC.out.kept (w102.heap.size + 1) (.cells #[.int .i64 0, .int .i64 0, .int .i64 0, .int .u64 0, .int .i64 0, .int .i64 0, .int .u64 0, .int .i64 0, .int .i64 0, .int .i64 0] 64 (0, 0) : Obj) (by simp))
        obtain ⟨yf0, yf1, yf2, yf3, yf4, yf5, yf6, yf7, yf8, yf9, yf10, yf11, yf12⟩ := cell13s (HC.out.kept (Y) (.cells #[.int .i64 (y.i 0), .int .u64 (y.i 1), .int .u64 (y.i 2), .string y.s, .int .i64 (y.i 4), .int .i64 (y.i 5), .int .i64 (y.i 6), .int .i64 (y.i 7), .int .i64 (y.i 8), .int .i64 (y.i 9), .int .i64 (y.i 10), .int .u64 (y.i 11), .int .u64 (y.i 12)] 25 (0, 0) : Obj) (by simp))
        obtain ⟨rf0, rf1, rf2, rf3, rf4, rf5, rf6, rf7, rf8, rf9, rf10, rf11, rf12⟩ := cell13s (HC.out.kept (w4.heap.size) (.cells #[.int .i64 (r.i 0), .int .u64 (r.i 1), .int .u64 (r.i 2), .string r.s, .int .i64 (r.i 4), .int .i64 (r.i 5), .int .i64 (r.i 6), .int .i64 (r.i 7), .int .i64 (r.i 8), .int .i64 (r.i 9), .int .i64 (r.i 10), .int .u64 (r.i 11), .int .u64 (r.i 12)] 25 (0, 0) : Obj) (by simp [HMr.out]))
        obtain ⟨vf0, vf1, vf2, vf3⟩ := cell4s (HC.out.kept (w102.heap.size) (.cells #[.int .i64 0, .int .i64 0, .int .i64 0, .int .i64 0] 75 (0, 0) : Obj) (by simp))
        obtain ⟨zsf0, zsf1, zsf2, zsf3⟩ := cell4s (HC.out.kept (w102.heap.size + 1 + 1) (.cells #[.int .i64 0, .int .i64 0, .int .i64 0, .int .i64 0] 75 (0, 0) : Obj) (by simp))
        go_wp2_with fail
        clear xf0 xf1 xf2 xf3 xf4 xf5 xf6 xf7 xf8 xf9 xf10 xf11 xf12 mf0 mf1 mf2 mf3 mf4 mf5 mf6 mf7 mf8 mf9 mf10 mf11 mf12 wof0 wof1 wof2 wof3 wof4 wof5 wof6 wof7 wof8 wof9 zof0 zof1 zof2 zof3 zof4 zof5 zof6 zof7 zof8 zof9 yf0 yf1 yf2 yf3 yf4 yf5 yf6 yf7 yf8 yf9 yf10 yf11 yf12 rf0 rf1 rf2 rf3 rf4 rf5 rf6 rf7 rf8 rf9 rf10 rf11 rf12 vf0 vf1 vf2 vf3 zsf0 zsf1 zsf2 zsf3
        refine (fixed_any _).mono ?_
        rintro e w' ⟨rfl, hb⟩
        go_wp2_with fail
        go_ret
        exact ⟨rfl, HC.out.low.trans (hb.mono HC.out.low.size)⟩
      · obtain rfl := HBI.out.zw h0
        simp only [zeroOpd, zeroY] at HC
        have z1 : (h == 0) = false := by simpa using h0
        subst i0
        have ex : Ms.eqM x m = false := by rw [HBI.out.ex]; simp; exact h0
        have ey : Ms.eqM y r = true := by rw [HBI.out.ey]; simp
        have tx := fun u : World => (show (binOp .eql 25 (.agg #[.int .i64 (x.i 0), .int .u64 (x.i 1), .int .u64 (x.i 2), .string x.s, .int .i64 (x.i 4), .int .i64 (x.i 5), .int .i64 (x.i 6), .int .i64 (x.i 7), .int .i64 (x.i 8), .int .i64 (x.i 9), .int .i64 (x.i 10), .int .u64 (x.i 11), .int .u64 (x.i 12)]) (.agg #[.int .i64 (m.i 0), .int .u64 (m.i 1), .int .u64 (m.i 2), .string m.s, .int .i64 (m.i 4), .int .i64 (m.i 5), .int .i64 (m.i 6), .int .i64 (m.i 7), .int .i64 (m.i 8), .int .i64 (m.i 9), .int .i64 (m.i 10), .int .u64 (m.i 11), .int .u64 (m.i 12)])).run Tryz.prog u = .ok (.bool false) u by have := Ms.eqlP x m u; rw [ex] at this; exact this)
        have ty := fun u : World => (show (binOp .eql 25 (.agg #[.int .i64 (y.i 0), .int .u64 (y.i 1), .int .u64 (y.i 2), .string y.s, .int .i64 (y.i 4), .int .i64 (y.i 5), .int .i64 (y.i 6), .int .i64 (y.i 7), .int .i64 (y.i 8), .int .i64 (y.i 9), .int .i64 (y.i 10), .int .u64 (y.i 11), .int .u64 (y.i 12)]) (.agg #[.int .i64 (r.i 0), .int .u64 (r.i 1), .int .u64 (r.i 2), .string r.s, .int .i64 (r.i 4), .int .i64 (r.i 5), .int .i64 (r.i 6), .int .i64 (r.i 7), .int .i64 (r.i 8), .int .i64 (r.i 9), .int .i64 (r.i 10), .int .u64 (r.i 11), .int .u64 (r.i 12)])).run Tryz.prog u = .ok (.bool true) u by have := Ms.eqlP y r u; rw [ey] at this; exact this)
        clear ex ey h0
        obtain ⟨xf0, xf1, xf2, xf3, xf4, xf5, xf6, xf7, xf8, xf9, xf10, xf11, xf12⟩ := cell13s (HC.out.kept (X) (.cells #[.int .i64 (x.i 0), .int .u64 (x.i 1), .int .u64 (x.i 2), .string x.s, .int .i64 (x.i 4), .int .i64 (x.i 5), .int .i64 (x.i 6), .int .i64 (x.i 7), .int .i64 (x.i 8), .int .i64 (x.i 9), .int .i64 (x.i 10), .int .u64 (x.i 11), .int .u64 (x.i 12)] 25 (0, 0) : Obj) (by simp))
        obtain ⟨mf0, mf1, mf2, mf3, mf4, mf5, mf6, mf7, mf8, mf9, mf10, mf11, mf12⟩ := cell13s (HC.out.kept (w2.heap.size) (.cells #[.int .i64 (m.i 0), .int .u64 (m.i 1), .int .u64 (m.i 2), .string m.s, .int .i64 (m.i 4), .int .i64 (m.i 5), .int .i64 (m.i 6), .int .i64 (m.i 7), .int .i64 (m.i 8), .int .i64 (m.i 9), .int .i64 (m.i 10), .int .u64 (m.i 11), .int .u64 (m.i 12)] 25 (0, 0) : Obj) (by simp [HMm.out]))
        obtain ⟨wof0, wof1, wof2, wof3, wof4, wof5, wof6, wof7, wof8, wof9⟩ := cell10s (HC.out.kept (w101.heap.size) (.cells #[.int .i64 0, .int .i64 0, .int .i64 0, .int .u64 0, .int .i64 0, .int .i64 0, .int .u64 0, .int .i64 0, .int .i64 0, .int .i64 0] 64 (0, 0) : Obj) (by simp))
        obtain ⟨zof0, zof1, zof2, zof3, zof4, zof5, zof6, zof7, zof8, zof9⟩ := cell10s (HC.out.kept (w102.heap.size + 1) (.cells #[.int .i64 0, .int .i64 0, .int .i64 0, .int .u64 0, .int .i64 0, .int .i64 0, .int .u64 0, .int .i64 0, .int .i64 0, .int .i64 0] 64 (0, 0) : Obj) (by simp))
        obtain ⟨yf0, yf1, yf2, yf3, yf4, yf5, yf6, yf7, yf8, yf9, yf10, yf11, yf12⟩ := cell13s (HC.out.kept (Y) (.cells #[.int .i64 (y.i 0), .int .u64 (y.i 1), .int .u64 (y.i 2), .string y.s, .int .i64 (y.i 4), .int .i64 (y.i 5), .int .i64 (y.i 6), .int .i64 (y.i 7), .int .i64 (y.i 8), .int .i64 (y.i 9), .int .i64 (y.i 10), .int .u64 (y.i 11), .int .u64 (y.i 12)] 25 (0, 0) : Obj) (by simp))
        obtain ⟨rf0, rf1, rf2, rf3, rf4, rf5, rf6, rf7, rf8, rf9, rf10, rf11, rf12⟩ := cell13s (HC.out.kept (w4.heap.size) (.cells #[.int .i64 (r.i 0), .int .u64 (r.i 1), .int .u64 (r.i 2), .string r.s, .int .i64 (r.i 4), .int .i64 (r.i 5), .int .i64 (r.i 6), .int .i64 (r.i 7), .int .i64 (r.i 8), .int .i64 (r.i 9), .int .i64 (r.i 10), .int .u64 (r.i 11), .int .u64 (r.i 12)] 25 (0, 0) : Obj) (by simp [HMr.out]))
        obtain ⟨vf0, vf1, vf2, vf3⟩ := cell4s (HC.out.kept (w102.heap.size) (.cells #[.int .i64 v.h, .int .i64 v.send, .int .i64 v.recv, .int .i64 v.version] 75 (0, 0) : Obj) (by simp))
        obtain ⟨zsf0, zsf1, zsf2, zsf3⟩ := cell4s (HC.out.kept (w102.heap.size + 1 + 1) (.cells #[.int .i64 0, .int .i64 0, .int .i64 0, .int .i64 0] 75 (0, 0) : Obj) (by simp))
        go_wp2_with fail
        clear xf0 xf1 xf2 xf3 xf4 xf5 xf6 xf7 xf8 xf9 xf10 xf11 xf12 mf0 mf1 mf2 mf3 mf4 mf5 mf6 mf7 mf8 mf9 mf10 mf11 mf12 wof0 wof1 wof2 wof3 wof4 wof5 wof6 wof7 wof8 wof9 zof0 zof1 zof2 zof3 zof4 zof5 zof6 zof7 zof8 zof9 yf0 yf1 yf2 yf3 yf4 yf5 yf6 yf7 yf8 yf9 yf10 yf11 yf12 rf0 rf1 rf2 rf3 rf4 rf5 rf6 rf7 rf8 rf9 rf10 rf11 rf12 vf0 vf1 vf2 vf3 zsf0 zsf1 zsf2 zsf3
        refine (fixed_any _).mono ?_
        rintro e w' ⟨rfl, hb⟩
        go_wp2_with fail
        go_ret
        exact ⟨rfl, HC.out.low.trans (hb.mono HC.out.low.size)⟩
      · obtain rfl := HBI.out.zw h0
        simp only [zeroOpd, zeroY] at HC
        have z1 : (h == 0) = false := by simpa using h0
        obtain rfl := HBI.out.zv i0
        simp only [zeroSes] at HC
        have z2 : (i == 0) = false := by simpa using i0
        have ex : Ms.eqM x m = false := by rw [HBI.out.ex]; simp; exact h0
        have ey : Ms.eqM y r = false := by rw [HBI.out.ey]; simp; exact i0
        have tx := fun u : World => (show (binOp .eql 25 (.agg #[.int .i64 (x.i 0), .int .u64 (x.i 1), .int .u64 (x.i 2), .string x.s, .int .i64 (x.i 4), .int .i64 (x.i 5), .int .i64 (x.i 6), .int .i64 (x.i 7), .int .i64 (x.i 8), .int .i64 (x.i 9), .int .i64 (x.i 10), .int .u64 (x.i 11), .int .u64 (x.i 12)]) (.agg #[.int .i64 (m.i 0), .int .u64 (m.i 1), .int .u64 (m.i 2), .string m.s, .int .i64 (m.i 4), .int .i64 (m.i 5), .int .i64 (m.i 6), .int .i64 (m.i 7), .int .i64 (m.i 8), .int .i64 (m.i 9), .int .i64 (m.i 10), .int .u64 (m.i 11), .int .u64 (m.i 12)])).run Tryz.prog u = .ok (.bool false) u by have := Ms.eqlP x m u; rw [ex] at this; exact this)
        have ty := fun u : World => (show (binOp .eql 25 (.agg #[.int .i64 (y.i 0), .int .u64 (y.i 1), .int .u64 (y.i 2), .string y.s, .int .i64 (y.i 4), .int .i64 (y.i 5), .int .i64 (y.i 6), .int .i64 (y.i 7), .int .i64 (y.i 8), .int .i64 (y.i 9), .int .i64 (y.i 10), .int .u64 (y.i 11), .int .u64 (y.i 12)]) (.agg #[.int .i64 (r.i 0), .int .u64 (r.i 1), .int .u64 (r.i 2), .string r.s, .int .i64 (r.i 4), .int .i64 (r.i 5), .int .i64 (r.i 6), .int .i64 (r.i 7), .int .i64 (r.i 8), .int .i64 (r.i 9), .int .i64 (r.i 10), .int .u64 (r.i 11), .int .u64 (r.i 12)])).run Tryz.prog u = .ok (.bool false) u by have := Ms.eqlP y r u; rw [ey] at this; exact this)
        clear ex ey h0 i0
        obtain ⟨xf0, xf1, xf2, xf3, xf4, xf5, xf6, xf7, xf8, xf9, xf10, xf11, xf12⟩ := cell13s (HC.out.kept (X) (.cells #[.int .i64 (x.i 0), .int .u64 (x.i 1), .int .u64 (x.i 2), .string x.s, .int .i64 (x.i 4), .int .i64 (x.i 5), .int .i64 (x.i 6), .int .i64 (x.i 7), .int .i64 (x.i 8), .int .i64 (x.i 9), .int .i64 (x.i 10), .int .u64 (x.i 11), .int .u64 (x.i 12)] 25 (0, 0) : Obj) (by simp))
        obtain ⟨mf0, mf1, mf2, mf3, mf4, mf5, mf6, mf7, mf8, mf9, mf10, mf11, mf12⟩ := cell13s (HC.out.kept (w2.heap.size) (.cells #[.int .i64 (m.i 0), .int .u64 (m.i 1), .int .u64 (m.i 2), .string m.s, .int .i64 (m.i 4), .int .i64 (m.i 5), .int .i64 (m.i 6), .int .i64 (m.i 7), .int .i64 (m.i 8), .int .i64 (m.i 9), .int .i64 (m.i 10), .int .u64 (m.i 11), .int .u64 (m.i 12)] 25 (0, 0) : Obj) (by simp [HMm.out]))
        obtain ⟨wof0, wof1, wof2, wof3, wof4, wof5, wof6, wof7, wof8, wof9⟩ := cell10s (HC.out.kept (w101.heap.size) (.cells #[.int .i64 0, .int .i64 0, .int .i64 0, .int .u64 0, .int .i64 0, .int .i64 0, .int .u64 0, .int .i64 0, .int .i64 0, .int .i64 0] 64 (0, 0) : Obj) (by simp))
        obtain ⟨zof0, zof1, zof2, zof3, zof4, zof5, zof6, zof7, zof8, zof9⟩ := cell10s (HC.out.kept (w102.heap.size + 1) (.cells #[.int .i64 0, .int .i64 0, .int .i64 0, .int .u64 0, .int .i64 0, .int .i64 0, .int .u64 0, .int .i64 0, .int .i64 0, .int .i64 0] 64 (0, 0) : Obj) (by simp))
        obtain ⟨yf0, yf1, yf2, yf3, yf4, yf5, yf6, yf7, yf8, yf9, yf10, yf11, yf12⟩ := cell13s (HC.out.kept (Y) (.cells #[.int .i64 (y.i 0), .int .u64 (y.i 1), .int .u64 (y.i 2), .string y.s, .int .i64 (y.i 4), .int .i64 (y.i 5), .int .i64 (y.i 6), .int .i64 (y.i 7), .int .i64 (y.i 8), .int .i64 (y.i 9), .int .i64 (y.i 10), .int .u64 (y.i 11), .int .u64 (y.i 12)] 25 (0, 0) : Obj) (by simp))
        obtain ⟨rf0, rf1, rf2, rf3, rf4, rf5, rf6, rf7, rf8, rf9, rf10, rf11, rf12⟩ := cell13s (HC.out.kept (w4.heap.size) (.cells #[.int .i64 (r.i 0), .int .u64 (r.i 1), .int .u64 (r.i 2), .string r.s, .int .i64 (r.i 4), .int .i64 (r.i 5), .int .i64 (r.i 6), .int .i64 (r.i 7), .int .i64 (r.i 8), .int .i64 (r.i 9), .int .i64 (r.i 10), .int .u64 (r.i 11), .int .u64 (r.i 12)] 25 (0, 0) : Obj) (by simp [HMr.out]))
        obtain ⟨vf0, vf1, vf2, vf3⟩ := cell4s (HC.out.kept (w102.heap.size) (.cells #[.int .i64 0, .int .i64 0, .int .i64 0, .int .i64 0] 75 (0, 0) : Obj) (by simp))
        obtain ⟨zsf0, zsf1, zsf2, zsf3⟩ := cell4s (HC.out.kept (w102.heap.size + 1 + 1) (.cells #[.int .i64 0, .int .i64 0, .int .i64 0, .int .i64 0] 75 (0, 0) : Obj) (by simp))
        go_wp2_with fail
        clear xf0 xf1 xf2 xf3 xf4 xf5 xf6 xf7 xf8 xf9 xf10 xf11 xf12 mf0 mf1 mf2 mf3 mf4 mf5 mf6 mf7 mf8 mf9 mf10 mf11 mf12 wof0 wof1 wof2 wof3 wof4 wof5 wof6 wof7 wof8 wof9 zof0 zof1 zof2 zof3 zof4 zof5 zof6 zof7 zof8 zof9 yf0 yf1 yf2 yf3 yf4 yf5 yf6 yf7 yf8 yf9 yf10 yf11 yf12 rf0 rf1 rf2 rf3 rf4 rf5 rf6 rf7 rf8 rf9 rf10 rf11 rf12 vf0 vf1 vf2 vf3 zsf0 zsf1 zsf2 zsf3
        refine (fixed_any _).mono ?_
        rintro e w' ⟨rfl, hb⟩
        go_wp2_with fail
        go_ret
        exact ⟨rfl, HC.out.low.trans (hb.mono HC.out.low.size)⟩
theorem walk (a0 a1 : Int) (w : World) (w0 : (Lit.int .u8 a0).wf = true) (w1 : (Lit.int .u8 a1).wf = true) : Calls Tryz.prog 5 #[.int .u8 a0, .int .u8 a1] w fun e w' => e = .returned (.bool true) ∧ Below w.heap.size w w' := by
  have b0 := byte_in w0
  have pv := pick_in a1 74 w1 (by omega) (by omega)
  have m0 : 0 ≤ a0.tmod 9 ∧ a0.tmod 9 < 9 := by rw [Int.tmod_eq_emod_of_nonneg (by omega)]; omega
  obtain ⟨wh, hwh⟩ : ∃ wh : Nat, a0.tmod 9 = (wh : Int) := ⟨(a0.tmod 9).toNat, by omega⟩
  have h9 : wh < 9 := by omega
  obtain ⟨m, q, o, r, u, L1, L2, L3, S, B⟩ := base_is
  exact walkW a0 a1 w (Lib.hid h9) hwh rfl (Lib.hid (by rw [wrap_is, wrap_is])) (Lib.hid S) (Lib.hid (B wh _ h9 pv.1 pv.2))
set_option maxRecDepth 100000 in
theorem lifted (os : Os) (started : os.Started) (H : Type) (enc : TypeId × Value → H) :
    ReturnsInHanded {} Tryz.checked os 5 .any (fun w args => (Rows.handBindsSpec.pre enc Tryz.prog Tryz.f5 [] false w args ∧ laidMetH Tryz.prog laidX w) ∧ sizedMet enc Tryz.prog Tryz.f5 (OpenSpec.ofChange Rows.handBindsSpec) false w args) (Rows.handBindsSpec.post enc Tryz.prog Tryz.f5 false true false false) := by
  refine returnsInHanded_of_change_and (C := Tryz.checked) (X := fun w _ => laidMetH Tryz.prog laidX w) (fun _ _ _ hh h => h.of_heap hh) own started (by kernel_rfl) Tryz.func5
    (ChangeSpec.witness_shaped (enc := enc) (C := Tryz.checked) (os := os) (X := fun w _ => laidMetH Tryz.prog laidX w) false (World.doorLaid Tryz.prog 400 os) #[.int .u8 0, .int .u8 0] 8 rfl (World.shaped_of_RefB (by kernel_rfl) (by kernel_rfl)) (by kernel_rfl) (by kernel_rfl) (by kernel_rfl) (door_met os _)) ?_
  intro W base args ds gs before hval0 hW hcnd _ _ _
  have hval : ∀ (j : Nat) t v, Tryz.f5.params[j]? = some t → args[j]? = some v → Value.okWide Tryz.prog W .any base t v := hval0
  have hW' := hW
  obtain ⟨p, q, hA0, hV, rfl, hfz, hnd⟩ := hW
  have hA : DataW.TrodAll enc Tryz.prog W 0 (fun _ => true) true Tryz.f5.params.toList args.toList ds p := hA0
  rw [Tryz.params5] at hA hval
  obtain ⟨v0, vs0, d0, ds0, p0, q0, hargs, rfl, rfl, h0, r0⟩ := trodAll_cons hA
  obtain ⟨v1, vs1, d1, ds1, p1, q1, rfl, rfl, rfl, h1, r1⟩ := trodAll_cons r0
  obtain ⟨rfl, rfl, rfl⟩ := trodAll_nil r1
  obtain rfl : args = #[v0, v1] := by cases args; simp_all
  obtain ⟨rfl, rfl⟩ := trodVars_none hV
  obtain ⟨a0, rfl, rfl, rfl, w0⟩ := open_int Tryz.underlying5 (hval 0 5 v0 rfl rfl) h0
  obtain ⟨a1, rfl, rfl, rfl, w1⟩ := open_int Tryz.underlying5 (hval 1 5 v1 rfl rfl) h1
  clear hA0 hval0
  refine (walk a0 a1 W w0 w1).mono fun e W' ⟨he, bel⟩ => ?_
  subst he
  exact ⟨_, rfl, _, _, _, [], _, [], hW', trodAll_mk1 (shut_bool Tryz.underlying4 _), (trodAll_cons_mk (shut_int Tryz.underlying5 w0) (trodAll_cons_mk (shut_int Tryz.underlying5 w1) trodAll_mk0)), rfl, bel.frame _, fun h => by cases h⟩

theorem over : Rows.handBindsRow.holds Tryz.pinned (OpenSpec.ofChange Rows.handBindsSpec) :=
  OpenClaim.holds_of_wide 5 Tryz.f5 rfl rfl rfl rfl rfl rfl rfl ⟨rfl, rfl, rfl, rfl, rfl⟩ rfl rfl rfl rfl rfl (by kernel_rfl) Tryz.func5 (by kernel_rfl)
    (of_decide_eq_true (by kernel_rfl)) (by unfold Func.isWrapper; first | (rw [if_pos (by decide +kernel)]; kernel_rfl) | (rw [if_neg (by decide +kernel)]; exact ⟨rfl, rfl⟩))
    (fun os started H enc _ => lifted os started H enc)

theorem proved : Rows.HandBindsCardSaid :=
  Claim7.holds_tied_plain_at .later [] [.data, .data, .data] true (true, "214d8958b74491cbef1c0d449ff4d349e3047b1a9571b3ced18372bfe132fcea") true
    over (fun _ h => by cases h) (by kernel_rfl) (fun _ h => by cases h) handBinds_row_tie rfl ⟨rfl, rfl⟩ (by kernel_rfl) rfl
    (fun f fn hf hfn => by
      obtain rfl : f = 5 := Option.some.inj ((show Tryz.prog.funcNamed "sough/soughlaw17.HandBinds" = some 5 by kernel_rfl).symm.trans hf) |>.symm
      obtain rfl : fn = Tryz.f5 := (Option.some.inj (Tryz.func5.symm.trans hfn)).symm
      exact ⟨by kernel_rfl, fun j t ht => by
        rw [Tryz.params5] at ht
        have hm : t ∈ [5, 5] := by simpa using Array.mem_of_getElem? ht
        have hall : ([5, 5].all fun u => !Tryz.prog.wantsStandIn u) = true := by kernel_rfl
        exact (show Tryz.prog.wantsStandIn t = false by simpa using List.all_eq_true.1 hall t hm)⟩)
    (by kernel_rfl)
#print axioms proved
end Go.Proofs.YtgeonppckeiceaaGreatDoor.handBinds
