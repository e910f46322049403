/- A run of a handshake by four draws. -/
import Derived.Test.YtgeonppckeiceaaGreatDoorGp43
import Derived.Test.YtgeonppckeiceaaGreatDoorHandU
namespace Go.Proofs.YtgeonppckeiceaaGreatDoor
open Go.RowKit
set_option linter.unusedVariables false
set_option linter.unusedSimpArgs false
set_option maxRecDepth 20000
structure RunIs (d0 d1 d2 e0 e1 : Int) (L : List Tm) (m : Mg) (q : Pnd) (L1 : List Tm) (o : Opd) (L2 : List Tm) (r : Mg) (s : Ses) (L3 : List Tm) (u : Ses) (L4 : List Tm) : Prop where
  c1 : hBegin 5000 L (1, 2) pB 7 ⟨#[1]⟩ 0 5 d0 d1 d2 = (m, q, 0, L1)
  c2 : hOpen 5000 L1 (3, 4) [pA] ⟨#[1]⟩ m = (o, 0, L2)
  c3 : hAnswer 5000 L2 o 9 7 e0 e1 = (r, s, 0, L3)
  c4 : hFinish 5000 L3 1 q r = (u, 0, L4)
  mw : Ms.Ms.Wf m
  rw : Ms.Ms.Wf r
  oy : o.y.Wf
  qy : q.y.Wf
  qe : I64 q.e
  qk : I64 q.ek
set_option maxHeartbeats 4000000 in
theorem run0 {base g : Nat} {L : List Tm} {bs : List (Nat × Obj)} {w0 w : World} (gN : Good base NoS) (h : Cs base (PSq base g 5000) NoS L [] bs w0 w) {m : Mg} {q : Pnd} {L1 : List Tm} {o : Opd} {L2 : List Tm} {r : Mg} {s : Ses} {L3 : List Tm} {u : Ses} {L4 : List Tm} (R : Hid (RunIs 7 8 9 10 11 L m q L1 o L2 r s L3 u L4)) :
    Calls Tryz.prog 39 #[.pointer (some ⟨g, 0, none⟩), .agg #[.int .i64 1, .int .i64 2, .int .i64 3, .int .i64 4], .agg #[.int .i64 17, .int .i64 18, .int .i64 5, .int .i64 6, .int .i64 15, .int .i64 16, .int .i64 5, .int .i64 6], .int .i64 0] w fun e' w' => e' = .returned (.tuple #[u.v, .int .i64 0]) ∧ Cs base (PSq base g 5000) NoS L4 [] bs w0 w' := by
  have gP := PSq.good base g 5000
  have HC := Lib.hid h
  have HK : Hid (∀ k o, (k, o) ∈ bs → k < w.heap.size) := Lib.hid (fun k o q => h.pair.klt k ⟨o, q⟩)
  have HQ := Lib.hid h.pair.base_le
  clear h
  replace HC := Lib.hid (HC.out.boxB gP gN #[.int .i64 1, .int .i64 2, .int .i64 3, .int .i64 4] 90 (b := w.heap.size) (by simp))
  replace HC := Lib.hid (HC.out.boxB gP gN #[.int .i64 17, .int .i64 18, .int .i64 5, .int .i64 6, .int .i64 15, .int .i64 16, .int .i64 5, .int .i64 6] 91 (b := w.heap.size + 1) (by simp))
  replace HC := Lib.hid (HC.out.boxB gP gN #[.int .i64 0, .int .i64 0, .int .i64 0, .int .i64 0] 75 (b := w.heap.size + 1 + 1) (by simp))
  go_enter Tryz.func39, Tryz.ntmps39
  go_upto_region 1 with fail
  have eb : bits BinOp.and IntKind.i64 0 3 = 0 := by kernel_rfl
  replace HC := Lib.hid (HC.out.boxB gP gN #[.int .i64 7, .int .i64 8, .int .i64 9, .int .i64 12, .int .i64 13, .int .i64 14, .int .i64 7, .int .i64 8, .int .i64 9, .int .i64 12, .int .i64 13, .int .i64 14] 50 (b := w.heap.size + 1 + 1 + 1) (by simp))
  have r1p0 := cell_of_row _ _ 0 _ _ _ (HC.out.kept (w.heap.size + 1 + 1 + 1) (.cells #[.int .i64 7, .int .i64 8, .int .i64 9, .int .i64 12, .int .i64 13, .int .i64 14, .int .i64 7, .int .i64 8, .int .i64 9, .int .i64 12, .int .i64 13, .int .i64 14] 50 (0, 0) : Obj) (by simp))
  have r1p1 := cell_of_row _ _ 1 _ _ _ (HC.out.kept (w.heap.size + 1 + 1 + 1) (.cells #[.int .i64 7, .int .i64 8, .int .i64 9, .int .i64 12, .int .i64 13, .int .i64 14, .int .i64 7, .int .i64 8, .int .i64 9, .int .i64 12, .int .i64 13, .int .i64 14] 50 (0, 0) : Obj) (by simp))
  have r1p2 := cell_of_row _ _ 2 _ _ _ (HC.out.kept (w.heap.size + 1 + 1 + 1) (.cells #[.int .i64 7, .int .i64 8, .int .i64 9, .int .i64 12, .int .i64 13, .int .i64 14, .int .i64 7, .int .i64 8, .int .i64 9, .int .i64 12, .int .i64 13, .int .i64 14] 50 (0, 0) : Obj) (by simp))
  simp at r1p0 r1p1 r1p2
  go_upto_region 2 with fail
  clear r1p0 r1p1 r1p2
  replace HC := Lib.hid (HC.out.boxB gP gN #[.int .i64 7, .int .i64 8, .int .i64 9] 50 (b := w.heap.size + 1 + 1 + 1 + 1) (by simp))
  replace HC := Lib.hid (HC.out.boxB gP gN #[.int .i64 10, .int .i64 11, .int .i64 10, .int .i64 11, .int .i64 12, .int .i64 13, .int .i64 8, .int .i64 9] 41 (b := w.heap.size + 1 + 1 + 1 + 1 + 1) (by simp))
  have r2p0 := cell_of_row _ _ 0 _ _ _ (HC.out.kept (w.heap.size + 1 + 1 + 1 + 1 + 1) (.cells #[.int .i64 10, .int .i64 11, .int .i64 10, .int .i64 11, .int .i64 12, .int .i64 13, .int .i64 8, .int .i64 9] 41 (0, 0) : Obj) (by simp))
  have r2p1 := cell_of_row _ _ 1 _ _ _ (HC.out.kept (w.heap.size + 1 + 1 + 1 + 1 + 1) (.cells #[.int .i64 10, .int .i64 11, .int .i64 10, .int .i64 11, .int .i64 12, .int .i64 13, .int .i64 8, .int .i64 9] 41 (0, 0) : Obj) (by simp))
  simp at r2p0 r2p1
  go_upto_region 3 with fail
  clear r2p0 r2p1
  replace HC := Lib.hid (HC.out.boxB gP gN #[.int .i64 10, .int .i64 11] 41 (b := w.heap.size + 1 + 1 + 1 + 1 + 1 + 1) (by simp))
  have onep0 := cell_of_row _ _ 0 _ _ _ (HC.out.kept (w.heap.size + 1 + 1 + 1 + 1) (.cells #[.int .i64 7, .int .i64 8, .int .i64 9] 50 (0, 0) : Obj) (by simp))
  have onep1 := cell_of_row _ _ 1 _ _ _ (HC.out.kept (w.heap.size + 1 + 1 + 1 + 1) (.cells #[.int .i64 7, .int .i64 8, .int .i64 9] 50 (0, 0) : Obj) (by simp))
  have onep2 := cell_of_row _ _ 2 _ _ _ (HC.out.kept (w.heap.size + 1 + 1 + 1 + 1) (.cells #[.int .i64 7, .int .i64 8, .int .i64 9] 50 (0, 0) : Obj) (by simp))
  simp at onep0 onep1 onep2
  obtain ⟨meg0, meg1, meg2, meg3⟩ := cell4s (HC.out.kept (w.heap.size) (.cells #[.int .i64 1, .int .i64 2, .int .i64 3, .int .i64 4] 90 (0, 0) : Obj) (by simp))
  obtain ⟨ppg0, ppg1, ppg2, ppg3, ppg4, ppg5, ppg6, ppg7⟩ := cell8s (HC.out.kept (w.heap.size + 1) (.cells #[.int .i64 17, .int .i64 18, .int .i64 5, .int .i64 6, .int .i64 15, .int .i64 16, .int .i64 5, .int .i64 6] 91 (0, 0) : Obj) (by simp))
  go_wp2_with fail
  clear onep0 onep1 onep2 meg0 meg1 meg2 meg3 ppg0 ppg1 ppg2 ppg3 ppg4 ppg5 ppg6 ppg7
  refine (HC.out.hbegin gN (a1 := 1) (a2 := 2) (d0 := 7) (d1 := 8) (d2 := 9) (p := pB) (m0 := mIn ⟨#[1]⟩ 0) (stamp := 5) k1 k2 pB_wf (mIn_wf (by decide) (by omega) (by omega)) (by omega) (i64_small (by omega) (by omega)) (i64_small (by omega) (by omega)) (i64_small (by omega) (by omega)) R.out.c1).mono ?_
  rintro e' w1 ⟨rfl, h⟩
  replace HC := Lib.hid h
  clear h
  simp only [Ms.Ms.v, Ms.Ms.cl, Pnd.v]
  replace HC := Lib.hid (HC.out.boxB gP gN #[.int .i64 (m.i 0), .int .u64 (m.i 1), .int .u64 (m.i 2), .string m.s, .int .i64 (m.i 4), .int .i64 (m.i 5), .int .i64 (m.i 6), .int .i64 (m.i 7), .int .i64 (m.i 8), .int .i64 (m.i 9), .int .i64 (m.i 10), .int .u64 (m.i 11), .int .u64 (m.i 12)] 25 (b := w1.heap.size) (by simp))
  replace HC := Lib.hid (HC.out.boxB gP gN #[.int .i64 q.y.CK, .int .i64 q.y.K, .int .i64 q.y.H, .int .u64 q.y.N, .int .i64 q.e, .int .i64 q.ek, .string q.offer] 47 (b := w1.heap.size + 1) (by simp))
  go_upto_region 6 with fail
  obtain ⟨meg0, meg1, meg2, meg3⟩ := cell4s (HC.out.kept (w.heap.size) (.cells #[.int .i64 1, .int .i64 2, .int .i64 3, .int .i64 4] 90 (0, 0) : Obj) (by simp))
  obtain ⟨ppg0, ppg1, ppg2, ppg3, ppg4, ppg5, ppg6, ppg7⟩ := cell8s (HC.out.kept (w.heap.size + 1) (.cells #[.int .i64 17, .int .i64 18, .int .i64 5, .int .i64 6, .int .i64 15, .int .i64 16, .int .i64 5, .int .i64 6] 91 (0, 0) : Obj) (by simp))
  replace HC := Lib.hid (HC.out.boxB gP gN #[.int .i64 15, .int .i64 16, .int .i64 5, .int .i64 6] 43 (b := w1.heap.size + 1 + 1) (by simp))
  obtain ⟨mf0, mf1, mf2, mf3, mf4, mf5, mf6, mf7, mf8, mf9, mf10, mf11, mf12⟩ := cell13s (HC.out.kept (w1.heap.size) (.cells #[.int .i64 (m.i 0), .int .u64 (m.i 1), .int .u64 (m.i 2), .string m.s, .int .i64 (m.i 4), .int .i64 (m.i 5), .int .i64 (m.i 6), .int .i64 (m.i 7), .int .i64 (m.i 8), .int .i64 (m.i 9), .int .i64 (m.i 10), .int .u64 (m.i 11), .int .u64 (m.i 12)] 25 (0, 0) : Obj) (by simp))
  go_wp2_with fail
  clear meg0 meg1 meg2 meg3 ppg0 ppg1 ppg2 ppg3 ppg4 ppg5 ppg6 ppg7 mf0 mf1 mf2 mf3 mf4 mf5 mf6 mf7 mf8 mf9 mf10 mf11 mf12
  have HR : ∀ bs, ((w1.heap.size + 1 + 1, (.cells #[.int .i64 15, .int .i64 16, .int .i64 5, .int .i64 6] 43 (0, 0) : Obj)) : Nat × Obj) ∈ bs → RowB bs (some ⟨w1.heap.size + 1 + 1, 0, none⟩) [pA] := fun bs hm W hk => row_one (p := pA) (hk (w1.heap.size + 1 + 1) (.cells #[.int .i64 15, .int .i64 16, .int .i64 5, .int .i64 6] 43 (0, 0) : Obj) hm)
  refine (HC.out.hopen gN (x := 3) (y := 4) (ps := [pA]) (offer := ⟨#[1]⟩) k3 k4 (by rfl) (by decide) (HR _ (by simp)) (by simp; exact pA_wf) (by decide) R.out.mw R.out.c2).mono ?_
  rintro e' w2 ⟨rfl, h⟩
  replace HC := Lib.hid h
  clear h HR
  simp only [Opd.v]
  replace HC := Lib.hid (HC.out.boxB gP gN #[.int .i64 o.y.CK, .int .i64 o.y.K, .int .i64 o.y.H, .int .u64 o.y.N, .int .i64 o.peer, .int .i64 o.version, .int .u64 o.stamp, .int .i64 o.e, .int .i64 o.ek, .int .i64 o.pub] 64 (b := w2.heap.size) (by simp))
  go_upto_region 9 with fail
  have twop0 := cell_of_row _ _ 0 _ _ _ (HC.out.kept (w.heap.size + 1 + 1 + 1 + 1 + 1 + 1) (.cells #[.int .i64 10, .int .i64 11] 41 (0, 0) : Obj) (by simp))
  have twop1 := cell_of_row _ _ 1 _ _ _ (HC.out.kept (w.heap.size + 1 + 1 + 1 + 1 + 1 + 1) (.cells #[.int .i64 10, .int .i64 11] 41 (0, 0) : Obj) (by simp))
  simp at twop0 twop1
  obtain ⟨of0, of1, of2, of3, of4, of5, of6, of7, of8, of9⟩ := cell10s (HC.out.kept (w2.heap.size) (.cells #[.int .i64 o.y.CK, .int .i64 o.y.K, .int .i64 o.y.H, .int .u64 o.y.N, .int .i64 o.peer, .int .i64 o.version, .int .u64 o.stamp, .int .i64 o.e, .int .i64 o.ek, .int .i64 o.pub] 64 (0, 0) : Obj) (by simp))
  go_wp2_with fail
  clear twop0 twop1 of0 of1 of2 of3 of4 of5 of6 of7 of8 of9
  refine (HC.out.hanswer gN (o := o) (fr := 9) (tt := 7) (d0 := 10) (d1 := 11) R.out.oy (u64_small (by omega) (by omega)) (u64_small (by omega) (by omega)) (i64_small (by omega) (by omega)) (i64_small (by omega) (by omega)) R.out.c3).mono ?_
  rintro e' w3 ⟨rfl, h⟩
  replace HC := Lib.hid h
  clear h
  simp only [Ms.Ms.v, Ms.Ms.cl, Ses.v]
  replace HC := Lib.hid (HC.out.boxB gP gN #[.int .i64 (r.i 0), .int .u64 (r.i 1), .int .u64 (r.i 2), .string r.s, .int .i64 (r.i 4), .int .i64 (r.i 5), .int .i64 (r.i 6), .int .i64 (r.i 7), .int .i64 (r.i 8), .int .i64 (r.i 9), .int .i64 (r.i 10), .int .u64 (r.i 11), .int .u64 (r.i 12)] 25 (b := w3.heap.size) (by simp))
  replace HC := Lib.hid (HC.out.boxB gP gN #[.int .i64 s.h, .int .i64 s.send, .int .i64 s.recv, .int .i64 s.version] 75 (b := w3.heap.size + 1) (by simp))
  go_upto_region 12 with fail
  obtain ⟨mef0, mef1, mef2, mef3⟩ := cell4s (HC.out.kept (w.heap.size) (.cells #[.int .i64 1, .int .i64 2, .int .i64 3, .int .i64 4] 90 (0, 0) : Obj) (by simp))
  obtain ⟨qf0, qf1, qf2, qf3, qf4, qf5, qf6⟩ := cell7s (HC.out.kept (w1.heap.size + 1) (.cells #[.int .i64 q.y.CK, .int .i64 q.y.K, .int .i64 q.y.H, .int .u64 q.y.N, .int .i64 q.e, .int .i64 q.ek, .string q.offer] 47 (0, 0) : Obj) (by simp))
  obtain ⟨rf0, rf1, rf2, rf3, rf4, rf5, rf6, rf7, rf8, rf9, rf10, rf11, rf12⟩ := cell13s (HC.out.kept (w3.heap.size) (.cells #[.int .i64 (r.i 0), .int .u64 (r.i 1), .int .u64 (r.i 2), .string r.s, .int .i64 (r.i 4), .int .i64 (r.i 5), .int .i64 (r.i 6), .int .i64 (r.i 7), .int .i64 (r.i 8), .int .i64 (r.i 9), .int .i64 (r.i 10), .int .u64 (r.i 11), .int .u64 (r.i 12)] 25 (0, 0) : Obj) (by simp))
  go_wp2_with fail
  clear mef0 mef1 mef2 mef3 qf0 qf1 qf2 qf3 qf4 qf5 qf6 rf0 rf1 rf2 rf3 rf4 rf5 rf6 rf7 rf8 rf9 rf10 rf11 rf12
  refine (HC.out.hfinish gN (x := 1) (y := 2) (p := q) (m := r) k1 R.out.qy ⟨R.out.qe, R.out.qk⟩ R.out.rw R.out.c4).mono ?_
  rintro e' w4 ⟨rfl, h⟩
  replace HC := Lib.hid h
  clear h
  simp only [Ses.v]
  obtain ⟨resg0, resg1, resg2, resg3⟩ := cell4s (HC.out.kept (w.heap.size + 1 + 1) (.cells #[.int .i64 0, .int .i64 0, .int .i64 0, .int .i64 0] 75 (0, 0) : Obj) (by simp))
  have tz0 := thaw_of (off := 0) (HC.out.kept (w.heap.size + 1 + 1) (.cells #[.int .i64 0, .int .i64 0, .int .i64 0, .int .i64 0] 75 (0, 0) : Obj) (by simp))
  have tz1 := thaw_of (off := 1) (HC.out.kept (w.heap.size + 1 + 1) (.cells #[.int .i64 0, .int .i64 0, .int .i64 0, .int .i64 0] 75 (0, 0) : Obj) (by simp))
  have tz2 := thaw_of (off := 2) (HC.out.kept (w.heap.size + 1 + 1) (.cells #[.int .i64 0, .int .i64 0, .int .i64 0, .int .i64 0] 75 (0, 0) : Obj) (by simp))
  have tz3 := thaw_of (off := 3) (HC.out.kept (w.heap.size + 1 + 1) (.cells #[.int .i64 0, .int .i64 0, .int .i64 0, .int .i64 0] 75 (0, 0) : Obj) (by simp))
  go_wp2_with fail
  clear resg0 resg1 resg2 resg3 tz0 tz1 tz2 tz3
  have hr := row_all [.int .i64 u.h, .int .i64 u.send, .int .i64 u.recv, .int .i64 u.version] (HC.out.kept (w.heap.size + 1 + 1) (.cells #[.int .i64 0, .int .i64 0, .int .i64 0, .int .i64 0] 75 (0, 0) : Obj) (by simp)) rfl
  have hc := chg_setCells (w.heap.size + 1 + 1) [.int .i64 u.h, .int .i64 u.send, .int .i64 u.recv, .int .i64 u.version] 0 w4
  show bodyPost _ _ _ _ _ (w4.setCells (w.heap.size + 1 + 1) 0 [.int .i64 u.h, .int .i64 u.send, .int .i64 u.recv, .int .i64 u.version])
  generalize hwz : w4.setCells (w.heap.size + 1 + 1) 0 [.int .i64 u.h, .int .i64 u.send, .int .i64 u.recv, .int .i64 u.version] = wz at hr hc ⊢
  clear hwz
  obtain ⟨r0, r1, r2, r3⟩ := cell4s hr
  exact bodyPost_ret (v := .tuple #[.agg #[.int .i64 u.h, .int .i64 u.send, .int .i64 u.recv, .int .i64 u.version], .int .i64 0]) (by simp [results, Tryz.results39, go_sem, r0, r1, r2, r3]) rfl ⟨rfl, HC.out.writes gN (b := w.heap.size + 1 + 1) (o := (.cells #[.int .i64 0, .int .i64 0, .int .i64 0, .int .i64 0] 75 (0, 0) : Obj)) (by simp) (by have := HQ.out; omega) hc (fun x q => ⟨by simp [q], fun e => by have := HK.out x.1 x.2 q; omega⟩)⟩
set_option maxHeartbeats 4000000 in
theorem run1 {base g : Nat} {L : List Tm} {bs : List (Nat × Obj)} {w0 w : World} (gN : Good base NoS) (h : Cs base (PSq base g 5000) NoS L [] bs w0 w) {m : Mg} {q : Pnd} {L1 : List Tm} {o : Opd} {L2 : List Tm} {r : Mg} {s : Ses} {L3 : List Tm} {u : Ses} {L4 : List Tm} (R : Hid (RunIs 12 13 14 10 11 L m q L1 o L2 r s L3 u L4)) :
    Calls Tryz.prog 39 #[.pointer (some ⟨g, 0, none⟩), .agg #[.int .i64 1, .int .i64 2, .int .i64 3, .int .i64 4], .agg #[.int .i64 17, .int .i64 18, .int .i64 5, .int .i64 6, .int .i64 15, .int .i64 16, .int .i64 5, .int .i64 6], .int .i64 1] w fun e' w' => e' = .returned (.tuple #[u.v, .int .i64 0]) ∧ Cs base (PSq base g 5000) NoS L4 [] bs w0 w' := by
  have gP := PSq.good base g 5000
  have HC := Lib.hid h
  have HK : Hid (∀ k o, (k, o) ∈ bs → k < w.heap.size) := Lib.hid (fun k o q => h.pair.klt k ⟨o, q⟩)
  have HQ := Lib.hid h.pair.base_le
  clear h
  replace HC := Lib.hid (HC.out.boxB gP gN #[.int .i64 1, .int .i64 2, .int .i64 3, .int .i64 4] 90 (b := w.heap.size) (by simp))
  replace HC := Lib.hid (HC.out.boxB gP gN #[.int .i64 17, .int .i64 18, .int .i64 5, .int .i64 6, .int .i64 15, .int .i64 16, .int .i64 5, .int .i64 6] 91 (b := w.heap.size + 1) (by simp))
  replace HC := Lib.hid (HC.out.boxB gP gN #[.int .i64 0, .int .i64 0, .int .i64 0, .int .i64 0] 75 (b := w.heap.size + 1 + 1) (by simp))
  go_enter Tryz.func39, Tryz.ntmps39
  go_upto_region 1 with fail
  have eb : bits BinOp.and IntKind.i64 1 3 = 1 := by kernel_rfl
  replace HC := Lib.hid (HC.out.boxB gP gN #[.int .i64 7, .int .i64 8, .int .i64 9, .int .i64 12, .int .i64 13, .int .i64 14, .int .i64 7, .int .i64 8, .int .i64 9, .int .i64 12, .int .i64 13, .int .i64 14] 50 (b := w.heap.size + 1 + 1 + 1) (by simp))
  have r1p3 := cell_of_row _ _ 3 _ _ _ (HC.out.kept (w.heap.size + 1 + 1 + 1) (.cells #[.int .i64 7, .int .i64 8, .int .i64 9, .int .i64 12, .int .i64 13, .int .i64 14, .int .i64 7, .int .i64 8, .int .i64 9, .int .i64 12, .int .i64 13, .int .i64 14] 50 (0, 0) : Obj) (by simp))
  have r1p4 := cell_of_row _ _ 4 _ _ _ (HC.out.kept (w.heap.size + 1 + 1 + 1) (.cells #[.int .i64 7, .int .i64 8, .int .i64 9, .int .i64 12, .int .i64 13, .int .i64 14, .int .i64 7, .int .i64 8, .int .i64 9, .int .i64 12, .int .i64 13, .int .i64 14] 50 (0, 0) : Obj) (by simp))
  have r1p5 := cell_of_row _ _ 5 _ _ _ (HC.out.kept (w.heap.size + 1 + 1 + 1) (.cells #[.int .i64 7, .int .i64 8, .int .i64 9, .int .i64 12, .int .i64 13, .int .i64 14, .int .i64 7, .int .i64 8, .int .i64 9, .int .i64 12, .int .i64 13, .int .i64 14] 50 (0, 0) : Obj) (by simp))
  simp at r1p3 r1p4 r1p5
  go_upto_region 2 with fail
  clear r1p3 r1p4 r1p5
  replace HC := Lib.hid (HC.out.boxB gP gN #[.int .i64 12, .int .i64 13, .int .i64 14] 50 (b := w.heap.size + 1 + 1 + 1 + 1) (by simp))
  replace HC := Lib.hid (HC.out.boxB gP gN #[.int .i64 10, .int .i64 11, .int .i64 10, .int .i64 11, .int .i64 12, .int .i64 13, .int .i64 8, .int .i64 9] 41 (b := w.heap.size + 1 + 1 + 1 + 1 + 1) (by simp))
  have r2p2 := cell_of_row _ _ 2 _ _ _ (HC.out.kept (w.heap.size + 1 + 1 + 1 + 1 + 1) (.cells #[.int .i64 10, .int .i64 11, .int .i64 10, .int .i64 11, .int .i64 12, .int .i64 13, .int .i64 8, .int .i64 9] 41 (0, 0) : Obj) (by simp))
  have r2p3 := cell_of_row _ _ 3 _ _ _ (HC.out.kept (w.heap.size + 1 + 1 + 1 + 1 + 1) (.cells #[.int .i64 10, .int .i64 11, .int .i64 10, .int .i64 11, .int .i64 12, .int .i64 13, .int .i64 8, .int .i64 9] 41 (0, 0) : Obj) (by simp))
  simp at r2p2 r2p3
  go_upto_region 3 with fail
  clear r2p2 r2p3
  replace HC := Lib.hid (HC.out.boxB gP gN #[.int .i64 10, .int .i64 11] 41 (b := w.heap.size + 1 + 1 + 1 + 1 + 1 + 1) (by simp))
  have onep0 := cell_of_row _ _ 0 _ _ _ (HC.out.kept (w.heap.size + 1 + 1 + 1 + 1) (.cells #[.int .i64 12, .int .i64 13, .int .i64 14] 50 (0, 0) : Obj) (by simp))
  have onep1 := cell_of_row _ _ 1 _ _ _ (HC.out.kept (w.heap.size + 1 + 1 + 1 + 1) (.cells #[.int .i64 12, .int .i64 13, .int .i64 14] 50 (0, 0) : Obj) (by simp))
  have onep2 := cell_of_row _ _ 2 _ _ _ (HC.out.kept (w.heap.size + 1 + 1 + 1 + 1) (.cells #[.int .i64 12, .int .i64 13, .int .i64 14] 50 (0, 0) : Obj) (by simp))
  simp at onep0 onep1 onep2
  obtain ⟨meg0, meg1, meg2, meg3⟩ := cell4s (HC.out.kept (w.heap.size) (.cells #[.int .i64 1, .int .i64 2, .int .i64 3, .int .i64 4] 90 (0, 0) : Obj) (by simp))
  obtain ⟨ppg0, ppg1, ppg2, ppg3, ppg4, ppg5, ppg6, ppg7⟩ := cell8s (HC.out.kept (w.heap.size + 1) (.cells #[.int .i64 17, .int .i64 18, .int .i64 5, .int .i64 6, .int .i64 15, .int .i64 16, .int .i64 5, .int .i64 6] 91 (0, 0) : Obj) (by simp))
  go_wp2_with fail
  clear onep0 onep1 onep2 meg0 meg1 meg2 meg3 ppg0 ppg1 ppg2 ppg3 ppg4 ppg5 ppg6 ppg7
  refine (HC.out.hbegin gN (a1 := 1) (a2 := 2) (d0 := 12) (d1 := 13) (d2 := 14) (p := pB) (m0 := mIn ⟨#[1]⟩ 0) (stamp := 5) k1 k2 pB_wf (mIn_wf (by decide) (by omega) (by omega)) (by omega) (i64_small (by omega) (by omega)) (i64_small (by omega) (by omega)) (i64_small (by omega) (by omega)) R.out.c1).mono ?_
  rintro e' w1 ⟨rfl, h⟩
  replace HC := Lib.hid h
  clear h
  simp only [Ms.Ms.v, Ms.Ms.cl, Pnd.v]
  replace HC := Lib.hid (HC.out.boxB gP gN #[.int .i64 (m.i 0), .int .u64 (m.i 1), .int .u64 (m.i 2), .string m.s, .int .i64 (m.i 4), .int .i64 (m.i 5), .int .i64 (m.i 6), .int .i64 (m.i 7), .int .i64 (m.i 8), .int .i64 (m.i 9), .int .i64 (m.i 10), .int .u64 (m.i 11), .int .u64 (m.i 12)] 25 (b := w1.heap.size) (by simp))
  replace HC := Lib.hid (HC.out.boxB gP gN #[.int .i64 q.y.CK, .int .i64 q.y.K, .int .i64 q.y.H, .int .u64 q.y.N, .int .i64 q.e, .int .i64 q.ek, .string q.offer] 47 (b := w1.heap.size + 1) (by simp))
  go_upto_region 6 with fail
  obtain ⟨meg0, meg1, meg2, meg3⟩ := cell4s (HC.out.kept (w.heap.size) (.cells #[.int .i64 1, .int .i64 2, .int .i64 3, .int .i64 4] 90 (0, 0) : Obj) (by simp))
  obtain ⟨ppg0, ppg1, ppg2, ppg3, ppg4, ppg5, ppg6, ppg7⟩ := cell8s (HC.out.kept (w.heap.size + 1) (.cells #[.int .i64 17, .int .i64 18, .int .i64 5, .int .i64 6, .int .i64 15, .int .i64 16, .int .i64 5, .int .i64 6] 91 (0, 0) : Obj) (by simp))
  replace HC := Lib.hid (HC.out.boxB gP gN #[.int .i64 15, .int .i64 16, .int .i64 5, .int .i64 6] 43 (b := w1.heap.size + 1 + 1) (by simp))
  obtain ⟨mf0, mf1, mf2, mf3, mf4, mf5, mf6, mf7, mf8, mf9, mf10, mf11, mf12⟩ := cell13s (HC.out.kept (w1.heap.size) (.cells #[.int .i64 (m.i 0), .int .u64 (m.i 1), .int .u64 (m.i 2), .string m.s, .int .i64 (m.i 4), .int .i64 (m.i 5), .int .i64 (m.i 6), .int .i64 (m.i 7), .int .i64 (m.i 8), .int .i64 (m.i 9), .int .i64 (m.i 10), .int .u64 (m.i 11), .int .u64 (m.i 12)] 25 (0, 0) : Obj) (by simp))
  go_wp2_with fail
  clear meg0 meg1 meg2 meg3 ppg0 ppg1 ppg2 ppg3 ppg4 ppg5 ppg6 ppg7 mf0 mf1 mf2 mf3 mf4 mf5 mf6 mf7 mf8 mf9 mf10 mf11 mf12
  have HR : ∀ bs, ((w1.heap.size + 1 + 1, (.cells #[.int .i64 15, .int .i64 16, .int .i64 5, .int .i64 6] 43 (0, 0) : Obj)) : Nat × Obj) ∈ bs → RowB bs (some ⟨w1.heap.size + 1 + 1, 0, none⟩) [pA] := fun bs hm W hk => row_one (p := pA) (hk (w1.heap.size + 1 + 1) (.cells #[.int .i64 15, .int .i64 16, .int .i64 5, .int .i64 6] 43 (0, 0) : Obj) hm)
  refine (HC.out.hopen gN (x := 3) (y := 4) (ps := [pA]) (offer := ⟨#[1]⟩) k3 k4 (by rfl) (by decide) (HR _ (by simp)) (by simp; exact pA_wf) (by decide) R.out.mw R.out.c2).mono ?_
  rintro e' w2 ⟨rfl, h⟩
  replace HC := Lib.hid h
  clear h HR
  simp only [Opd.v]
  replace HC := Lib.hid (HC.out.boxB gP gN #[.int .i64 o.y.CK, .int .i64 o.y.K, .int .i64 o.y.H, .int .u64 o.y.N, .int .i64 o.peer, .int .i64 o.version, .int .u64 o.stamp, .int .i64 o.e, .int .i64 o.ek, .int .i64 o.pub] 64 (b := w2.heap.size) (by simp))
  go_upto_region 9 with fail
  have twop0 := cell_of_row _ _ 0 _ _ _ (HC.out.kept (w.heap.size + 1 + 1 + 1 + 1 + 1 + 1) (.cells #[.int .i64 10, .int .i64 11] 41 (0, 0) : Obj) (by simp))
  have twop1 := cell_of_row _ _ 1 _ _ _ (HC.out.kept (w.heap.size + 1 + 1 + 1 + 1 + 1 + 1) (.cells #[.int .i64 10, .int .i64 11] 41 (0, 0) : Obj) (by simp))
  simp at twop0 twop1
  obtain ⟨of0, of1, of2, of3, of4, of5, of6, of7, of8, of9⟩ := cell10s (HC.out.kept (w2.heap.size) (.cells #[.int .i64 o.y.CK, .int .i64 o.y.K, .int .i64 o.y.H, .int .u64 o.y.N, .int .i64 o.peer, .int .i64 o.version, .int .u64 o.stamp, .int .i64 o.e, .int .i64 o.ek, .int .i64 o.pub] 64 (0, 0) : Obj) (by simp))
  go_wp2_with fail
  clear twop0 twop1 of0 of1 of2 of3 of4 of5 of6 of7 of8 of9
  refine (HC.out.hanswer gN (o := o) (fr := 9) (tt := 7) (d0 := 10) (d1 := 11) R.out.oy (u64_small (by omega) (by omega)) (u64_small (by omega) (by omega)) (i64_small (by omega) (by omega)) (i64_small (by omega) (by omega)) R.out.c3).mono ?_
  rintro e' w3 ⟨rfl, h⟩
  replace HC := Lib.hid h
  clear h
  simp only [Ms.Ms.v, Ms.Ms.cl, Ses.v]
  replace HC := Lib.hid (HC.out.boxB gP gN #[.int .i64 (r.i 0), .int .u64 (r.i 1), .int .u64 (r.i 2), .string r.s, .int .i64 (r.i 4), .int .i64 (r.i 5), .int .i64 (r.i 6), .int .i64 (r.i 7), .int .i64 (r.i 8), .int .i64 (r.i 9), .int .i64 (r.i 10), .int .u64 (r.i 11), .int .u64 (r.i 12)] 25 (b := w3.heap.size) (by simp))
  replace HC := Lib.hid (HC.out.boxB gP gN #[.int .i64 s.h, .int .i64 s.send, .int .i64 s.recv, .int .i64 s.version] 75 (b := w3.heap.size + 1) (by simp))
  go_upto_region 12 with fail
  obtain ⟨mef0, mef1, mef2, mef3⟩ := cell4s (HC.out.kept (w.heap.size) (.cells #[.int .i64 1, .int .i64 2, .int .i64 3, .int .i64 4] 90 (0, 0) : Obj) (by simp))
  obtain ⟨qf0, qf1, qf2, qf3, qf4, qf5, qf6⟩ := cell7s (HC.out.kept (w1.heap.size + 1) (.cells #[.int .i64 q.y.CK, .int .i64 q.y.K, .int .i64 q.y.H, .int .u64 q.y.N, .int .i64 q.e, .int .i64 q.ek, .string q.offer] 47 (0, 0) : Obj) (by simp))
  obtain ⟨rf0, rf1, rf2, rf3, rf4, rf5, rf6, rf7, rf8, rf9, rf10, rf11, rf12⟩ := cell13s (HC.out.kept (w3.heap.size) (.cells #[.int .i64 (r.i 0), .int .u64 (r.i 1), .int .u64 (r.i 2), .string r.s, .int .i64 (r.i 4), .int .i64 (r.i 5), .int .i64 (r.i 6), .int .i64 (r.i 7), .int .i64 (r.i 8), .int .i64 (r.i 9), .int .i64 (r.i 10), .int .u64 (r.i 11), .int .u64 (r.i 12)] 25 (0, 0) : Obj) (by simp))
  go_wp2_with fail
  clear mef0 mef1 mef2 mef3 qf0 qf1 qf2 qf3 qf4 qf5 qf6 rf0 rf1 rf2 rf3 rf4 rf5 rf6 rf7 rf8 rf9 rf10 rf11 rf12
  refine (HC.out.hfinish gN (x := 1) (y := 2) (p := q) (m := r) k1 R.out.qy ⟨R.out.qe, R.out.qk⟩ R.out.rw R.out.c4).mono ?_
  rintro e' w4 ⟨rfl, h⟩
  replace HC := Lib.hid h
  clear h
  simp only [Ses.v]
  obtain ⟨resg0, resg1, resg2, resg3⟩ := cell4s (HC.out.kept (w.heap.size + 1 + 1) (.cells #[.int .i64 0, .int .i64 0, .int .i64 0, .int .i64 0] 75 (0, 0) : Obj) (by simp))
  have tz0 := thaw_of (off := 0) (HC.out.kept (w.heap.size + 1 + 1) (.cells #[.int .i64 0, .int .i64 0, .int .i64 0, .int .i64 0] 75 (0, 0) : Obj) (by simp))
  have tz1 := thaw_of (off := 1) (HC.out.kept (w.heap.size + 1 + 1) (.cells #[.int .i64 0, .int .i64 0, .int .i64 0, .int .i64 0] 75 (0, 0) : Obj) (by simp))
  have tz2 := thaw_of (off := 2) (HC.out.kept (w.heap.size + 1 + 1) (.cells #[.int .i64 0, .int .i64 0, .int .i64 0, .int .i64 0] 75 (0, 0) : Obj) (by simp))
  have tz3 := thaw_of (off := 3) (HC.out.kept (w.heap.size + 1 + 1) (.cells #[.int .i64 0, .int .i64 0, .int .i64 0, .int .i64 0] 75 (0, 0) : Obj) (by simp))
  go_wp2_with fail
  clear resg0 resg1 resg2 resg3 tz0 tz1 tz2 tz3
  have hr := row_all [.int .i64 u.h, .int .i64 u.send, .int .i64 u.recv, .int .i64 u.version] (HC.out.kept (w.heap.size + 1 + 1) (.cells #[.int .i64 0, .int .i64 0, .int .i64 0, .int .i64 0] 75 (0, 0) : Obj) (by simp)) rfl
  have hc := chg_setCells (w.heap.size + 1 + 1) [.int .i64 u.h, .int .i64 u.send, .int .i64 u.recv, .int .i64 u.version] 0 w4
  show bodyPost _ _ _ _ _ (w4.setCells (w.heap.size + 1 + 1) 0 [.int .i64 u.h, .int .i64 u.send, .int .i64 u.recv, .int .i64 u.version])
  generalize hwz : w4.setCells (w.heap.size + 1 + 1) 0 [.int .i64 u.h, .int .i64 u.send, .int .i64 u.recv, .int .i64 u.version] = wz at hr hc ⊢
  clear hwz
  obtain ⟨r0, r1, r2, r3⟩ := cell4s hr
  exact bodyPost_ret (v := .tuple #[.agg #[.int .i64 u.h, .int .i64 u.send, .int .i64 u.recv, .int .i64 u.version], .int .i64 0]) (by simp [results, Tryz.results39, go_sem, r0, r1, r2, r3]) rfl ⟨rfl, HC.out.writes gN (b := w.heap.size + 1 + 1) (o := (.cells #[.int .i64 0, .int .i64 0, .int .i64 0, .int .i64 0] 75 (0, 0) : Obj)) (by simp) (by have := HQ.out; omega) hc (fun x q => ⟨by simp [q], fun e => by have := HK.out x.1 x.2 q; omega⟩)⟩
set_option maxHeartbeats 4000000 in
theorem run2 {base g : Nat} {L : List Tm} {bs : List (Nat × Obj)} {w0 w : World} (gN : Good base NoS) (h : Cs base (PSq base g 5000) NoS L [] bs w0 w) {m : Mg} {q : Pnd} {L1 : List Tm} {o : Opd} {L2 : List Tm} {r : Mg} {s : Ses} {L3 : List Tm} {u : Ses} {L4 : List Tm} (R : Hid (RunIs 7 8 9 12 13 L m q L1 o L2 r s L3 u L4)) :
    Calls Tryz.prog 39 #[.pointer (some ⟨g, 0, none⟩), .agg #[.int .i64 1, .int .i64 2, .int .i64 3, .int .i64 4], .agg #[.int .i64 17, .int .i64 18, .int .i64 5, .int .i64 6, .int .i64 15, .int .i64 16, .int .i64 5, .int .i64 6], .int .i64 2] w fun e' w' => e' = .returned (.tuple #[u.v, .int .i64 0]) ∧ Cs base (PSq base g 5000) NoS L4 [] bs w0 w' := by
  have gP := PSq.good base g 5000
  have HC := Lib.hid h
  have HK : Hid (∀ k o, (k, o) ∈ bs → k < w.heap.size) := Lib.hid (fun k o q => h.pair.klt k ⟨o, q⟩)
  have HQ := Lib.hid h.pair.base_le
  clear h
  replace HC := Lib.hid (HC.out.boxB gP gN #[.int .i64 1, .int .i64 2, .int .i64 3, .int .i64 4] 90 (b := w.heap.size) (by simp))
  replace HC := Lib.hid (HC.out.boxB gP gN #[.int .i64 17, .int .i64 18, .int .i64 5, .int .i64 6, .int .i64 15, .int .i64 16, .int .i64 5, .int .i64 6] 91 (b := w.heap.size + 1) (by simp))
  replace HC := Lib.hid (HC.out.boxB gP gN #[.int .i64 0, .int .i64 0, .int .i64 0, .int .i64 0] 75 (b := w.heap.size + 1 + 1) (by simp))
  go_enter Tryz.func39, Tryz.ntmps39
  go_upto_region 1 with fail
  have eb : bits BinOp.and IntKind.i64 2 3 = 2 := by kernel_rfl
  replace HC := Lib.hid (HC.out.boxB gP gN #[.int .i64 7, .int .i64 8, .int .i64 9, .int .i64 12, .int .i64 13, .int .i64 14, .int .i64 7, .int .i64 8, .int .i64 9, .int .i64 12, .int .i64 13, .int .i64 14] 50 (b := w.heap.size + 1 + 1 + 1) (by simp))
  have r1p6 := cell_of_row _ _ 6 _ _ _ (HC.out.kept (w.heap.size + 1 + 1 + 1) (.cells #[.int .i64 7, .int .i64 8, .int .i64 9, .int .i64 12, .int .i64 13, .int .i64 14, .int .i64 7, .int .i64 8, .int .i64 9, .int .i64 12, .int .i64 13, .int .i64 14] 50 (0, 0) : Obj) (by simp))
  have r1p7 := cell_of_row _ _ 7 _ _ _ (HC.out.kept (w.heap.size + 1 + 1 + 1) (.cells #[.int .i64 7, .int .i64 8, .int .i64 9, .int .i64 12, .int .i64 13, .int .i64 14, .int .i64 7, .int .i64 8, .int .i64 9, .int .i64 12, .int .i64 13, .int .i64 14] 50 (0, 0) : Obj) (by simp))
  have r1p8 := cell_of_row _ _ 8 _ _ _ (HC.out.kept (w.heap.size + 1 + 1 + 1) (.cells #[.int .i64 7, .int .i64 8, .int .i64 9, .int .i64 12, .int .i64 13, .int .i64 14, .int .i64 7, .int .i64 8, .int .i64 9, .int .i64 12, .int .i64 13, .int .i64 14] 50 (0, 0) : Obj) (by simp))
  simp at r1p6 r1p7 r1p8
  go_upto_region 2 with fail
  clear r1p6 r1p7 r1p8
  replace HC := Lib.hid (HC.out.boxB gP gN #[.int .i64 7, .int .i64 8, .int .i64 9] 50 (b := w.heap.size + 1 + 1 + 1 + 1) (by simp))
  replace HC := Lib.hid (HC.out.boxB gP gN #[.int .i64 10, .int .i64 11, .int .i64 10, .int .i64 11, .int .i64 12, .int .i64 13, .int .i64 8, .int .i64 9] 41 (b := w.heap.size + 1 + 1 + 1 + 1 + 1) (by simp))
  have r2p4 := cell_of_row _ _ 4 _ _ _ (HC.out.kept (w.heap.size + 1 + 1 + 1 + 1 + 1) (.cells #[.int .i64 10, .int .i64 11, .int .i64 10, .int .i64 11, .int .i64 12, .int .i64 13, .int .i64 8, .int .i64 9] 41 (0, 0) : Obj) (by simp))
  have r2p5 := cell_of_row _ _ 5 _ _ _ (HC.out.kept (w.heap.size + 1 + 1 + 1 + 1 + 1) (.cells #[.int .i64 10, .int .i64 11, .int .i64 10, .int .i64 11, .int .i64 12, .int .i64 13, .int .i64 8, .int .i64 9] 41 (0, 0) : Obj) (by simp))
  simp at r2p4 r2p5
  go_upto_region 3 with fail
  clear r2p4 r2p5
  replace HC := Lib.hid (HC.out.boxB gP gN #[.int .i64 12, .int .i64 13] 41 (b := w.heap.size + 1 + 1 + 1 + 1 + 1 + 1) (by simp))
  have onep0 := cell_of_row _ _ 0 _ _ _ (HC.out.kept (w.heap.size + 1 + 1 + 1 + 1) (.cells #[.int .i64 7, .int .i64 8, .int .i64 9] 50 (0, 0) : Obj) (by simp))
  have onep1 := cell_of_row _ _ 1 _ _ _ (HC.out.kept (w.heap.size + 1 + 1 + 1 + 1) (.cells #[.int .i64 7, .int .i64 8, .int .i64 9] 50 (0, 0) : Obj) (by simp))
  have onep2 := cell_of_row _ _ 2 _ _ _ (HC.out.kept (w.heap.size + 1 + 1 + 1 + 1) (.cells #[.int .i64 7, .int .i64 8, .int .i64 9] 50 (0, 0) : Obj) (by simp))
  simp at onep0 onep1 onep2
  obtain ⟨meg0, meg1, meg2, meg3⟩ := cell4s (HC.out.kept (w.heap.size) (.cells #[.int .i64 1, .int .i64 2, .int .i64 3, .int .i64 4] 90 (0, 0) : Obj) (by simp))
  obtain ⟨ppg0, ppg1, ppg2, ppg3, ppg4, ppg5, ppg6, ppg7⟩ := cell8s (HC.out.kept (w.heap.size + 1) (.cells #[.int .i64 17, .int .i64 18, .int .i64 5, .int .i64 6, .int .i64 15, .int .i64 16, .int .i64 5, .int .i64 6] 91 (0, 0) : Obj) (by simp))
  go_wp2_with fail
  clear onep0 onep1 onep2 meg0 meg1 meg2 meg3 ppg0 ppg1 ppg2 ppg3 ppg4 ppg5 ppg6 ppg7
  refine (HC.out.hbegin gN (a1 := 1) (a2 := 2) (d0 := 7) (d1 := 8) (d2 := 9) (p := pB) (m0 := mIn ⟨#[1]⟩ 0) (stamp := 5) k1 k2 pB_wf (mIn_wf (by decide) (by omega) (by omega)) (by omega) (i64_small (by omega) (by omega)) (i64_small (by omega) (by omega)) (i64_small (by omega) (by omega)) R.out.c1).mono ?_
  rintro e' w1 ⟨rfl, h⟩
  replace HC := Lib.hid h
  clear h
  simp only [Ms.Ms.v, Ms.Ms.cl, Pnd.v]
  replace HC := Lib.hid (HC.out.boxB gP gN #[.int .i64 (m.i 0), .int .u64 (m.i 1), .int .u64 (m.i 2), .string m.s, .int .i64 (m.i 4), .int .i64 (m.i 5), .int .i64 (m.i 6), .int .i64 (m.i 7), .int .i64 (m.i 8), .int .i64 (m.i 9), .int .i64 (m.i 10), .int .u64 (m.i 11), .int .u64 (m.i 12)] 25 (b := w1.heap.size) (by simp))
  replace HC := Lib.hid (HC.out.boxB gP gN #[.int .i64 q.y.CK, .int .i64 q.y.K, .int .i64 q.y.H, .int .u64 q.y.N, .int .i64 q.e, .int .i64 q.ek, .string q.offer] 47 (b := w1.heap.size + 1) (by simp))
  go_upto_region 6 with fail
  obtain ⟨meg0, meg1, meg2, meg3⟩ := cell4s (HC.out.kept (w.heap.size) (.cells #[.int .i64 1, .int .i64 2, .int .i64 3, .int .i64 4] 90 (0, 0) : Obj) (by simp))
  obtain ⟨ppg0, ppg1, ppg2, ppg3, ppg4, ppg5, ppg6, ppg7⟩ := cell8s (HC.out.kept (w.heap.size + 1) (.cells #[.int .i64 17, .int .i64 18, .int .i64 5, .int .i64 6, .int .i64 15, .int .i64 16, .int .i64 5, .int .i64 6] 91 (0, 0) : Obj) (by simp))
  replace HC := Lib.hid (HC.out.boxB gP gN #[.int .i64 15, .int .i64 16, .int .i64 5, .int .i64 6] 43 (b := w1.heap.size + 1 + 1) (by simp))
  obtain ⟨mf0, mf1, mf2, mf3, mf4, mf5, mf6, mf7, mf8, mf9, mf10, mf11, mf12⟩ := cell13s (HC.out.kept (w1.heap.size) (.cells #[.int .i64 (m.i 0), .int .u64 (m.i 1), .int .u64 (m.i 2), .string m.s, .int .i64 (m.i 4), .int .i64 (m.i 5), .int .i64 (m.i 6), .int .i64 (m.i 7), .int .i64 (m.i 8), .int .i64 (m.i 9), .int .i64 (m.i 10), .int .u64 (m.i 11), .int .u64 (m.i 12)] 25 (0, 0) : Obj) (by simp))
  go_wp2_with fail
  clear meg0 meg1 meg2 meg3 ppg0 ppg1 ppg2 ppg3 ppg4 ppg5 ppg6 ppg7 mf0 mf1 mf2 mf3 mf4 mf5 mf6 mf7 mf8 mf9 mf10 mf11 mf12
  have HR : ∀ bs, ((w1.heap.size + 1 + 1, (.cells #[.int .i64 15, .int .i64 16, .int .i64 5, .int .i64 6] 43 (0, 0) : Obj)) : Nat × Obj) ∈ bs → RowB bs (some ⟨w1.heap.size + 1 + 1, 0, none⟩) [pA] := fun bs hm W hk => row_one (p := pA) (hk (w1.heap.size + 1 + 1) (.cells #[.int .i64 15, .int .i64 16, .int .i64 5, .int .i64 6] 43 (0, 0) : Obj) hm)
  refine (HC.out.hopen gN (x := 3) (y := 4) (ps := [pA]) (offer := ⟨#[1]⟩) k3 k4 (by rfl) (by decide) (HR _ (by simp)) (by simp; exact pA_wf) (by decide) R.out.mw R.out.c2).mono ?_
  rintro e' w2 ⟨rfl, h⟩
  replace HC := Lib.hid h
  clear h HR
  simp only [Opd.v]
  replace HC := Lib.hid (HC.out.boxB gP gN #[.int .i64 o.y.CK, .int .i64 o.y.K, .int .i64 o.y.H, .int .u64 o.y.N, .int .i64 o.peer, .int .i64 o.version, .int .u64 o.stamp, .int .i64 o.e, .int .i64 o.ek, .int .i64 o.pub] 64 (b := w2.heap.size) (by simp))
  go_upto_region 9 with fail
  have twop0 := cell_of_row _ _ 0 _ _ _ (HC.out.kept (w.heap.size + 1 + 1 + 1 + 1 + 1 + 1) (.cells #[.int .i64 12, .int .i64 13] 41 (0, 0) : Obj) (by simp))
  have twop1 := cell_of_row _ _ 1 _ _ _ (HC.out.kept (w.heap.size + 1 + 1 + 1 + 1 + 1 + 1) (.cells #[.int .i64 12, .int .i64 13] 41 (0, 0) : Obj) (by simp))
  simp at twop0 twop1
  obtain ⟨of0, of1, of2, of3, of4, of5, of6, of7, of8, of9⟩ := cell10s (HC.out.kept (w2.heap.size) (.cells #[.int .i64 o.y.CK, .int .i64 o.y.K, .int .i64 o.y.H, .int .u64 o.y.N, .int .i64 o.peer, .int .i64 o.version, .int .u64 o.stamp, .int .i64 o.e, .int .i64 o.ek, .int .i64 o.pub] 64 (0, 0) : Obj) (by simp))
  go_wp2_with fail
  clear twop0 twop1 of0 of1 of2 of3 of4 of5 of6 of7 of8 of9
  refine (HC.out.hanswer gN (o := o) (fr := 9) (tt := 7) (d0 := 12) (d1 := 13) R.out.oy (u64_small (by omega) (by omega)) (u64_small (by omega) (by omega)) (i64_small (by omega) (by omega)) (i64_small (by omega) (by omega)) R.out.c3).mono ?_
  rintro e' w3 ⟨rfl, h⟩
  replace HC := Lib.hid h
  clear h
  simp only [Ms.Ms.v, Ms.Ms.cl, Ses.v]
  replace HC := Lib.hid (HC.out.boxB gP gN #[.int .i64 (r.i 0), .int .u64 (r.i 1), .int .u64 (r.i 2), .string r.s, .int .i64 (r.i 4), .int .i64 (r.i 5), .int .i64 (r.i 6), .int .i64 (r.i 7), .int .i64 (r.i 8), .int .i64 (r.i 9), .int .i64 (r.i 10), .int .u64 (r.i 11), .int .u64 (r.i 12)] 25 (b := w3.heap.size) (by simp))
  replace HC := Lib.hid (HC.out.boxB gP gN #[.int .i64 s.h, .int .i64 s.send, .int .i64 s.recv, .int .i64 s.version] 75 (b := w3.heap.size + 1) (by simp))
  go_upto_region 12 with fail
  obtain ⟨mef0, mef1, mef2, mef3⟩ := cell4s (HC.out.kept (w.heap.size) (.cells #[.int .i64 1, .int .i64 2, .int .i64 3, .int .i64 4] 90 (0, 0) : Obj) (by simp))
  obtain ⟨qf0, qf1, qf2, qf3, qf4, qf5, qf6⟩ := cell7s (HC.out.kept (w1.heap.size + 1) (.cells #[.int .i64 q.y.CK, .int .i64 q.y.K, .int .i64 q.y.H, .int .u64 q.y.N, .int .i64 q.e, .int .i64 q.ek, .string q.offer] 47 (0, 0) : Obj) (by simp))
  obtain ⟨rf0, rf1, rf2, rf3, rf4, rf5, rf6, rf7, rf8, rf9, rf10, rf11, rf12⟩ := cell13s (HC.out.kept (w3.heap.size) (.cells #[.int .i64 (r.i 0), .int .u64 (r.i 1), .int .u64 (r.i 2), .string r.s, .int .i64 (r.i 4), .int .i64 (r.i 5), .int .i64 (r.i 6), .int .i64 (r.i 7), .int .i64 (r.i 8), .int .i64 (r.i 9), .int .i64 (r.i 10), .int .u64 (r.i 11), .int .u64 (r.i 12)] 25 (0, 0) : Obj) (by simp))
  go_wp2_with fail
  clear mef0 mef1 mef2 mef3 qf0 qf1 qf2 qf3 qf4 qf5 qf6 rf0 rf1 rf2 rf3 rf4 rf5 rf6 rf7 rf8 rf9 rf10 rf11 rf12
  refine (HC.out.hfinish gN (x := 1) (y := 2) (p := q) (m := r) k1 R.out.qy ⟨R.out.qe, R.out.qk⟩ R.out.rw R.out.c4).mono ?_
  rintro e' w4 ⟨rfl, h⟩
  replace HC := Lib.hid h
  clear h
  simp only [Ses.v]
  obtain ⟨resg0, resg1, resg2, resg3⟩ := cell4s (HC.out.kept (w.heap.size + 1 + 1) (.cells #[.int .i64 0, .int .i64 0, .int .i64 0, .int .i64 0] 75 (0, 0) : Obj) (by simp))
  have tz0 := thaw_of (off := 0) (HC.out.kept (w.heap.size + 1 + 1) (.cells #[.int .i64 0, .int .i64 0, .int .i64 0, .int .i64 0] 75 (0, 0) : Obj) (by simp))
  have tz1 := thaw_of (off := 1) (HC.out.kept (w.heap.size + 1 + 1) (.cells #[.int .i64 0, .int .i64 0, .int .i64 0, .int .i64 0] 75 (0, 0) : Obj) (by simp))
  have tz2 := thaw_of (off := 2) (HC.out.kept (w.heap.size + 1 + 1) (.cells #[.int .i64 0, .int .i64 0, .int .i64 0, .int .i64 0] 75 (0, 0) : Obj) (by simp))
  have tz3 := thaw_of (off := 3) (HC.out.kept (w.heap.size + 1 + 1) (.cells #[.int .i64 0, .int .i64 0, .int .i64 0, .int .i64 0] 75 (0, 0) : Obj) (by simp))
  go_wp2_with fail
  clear resg0 resg1 resg2 resg3 tz0 tz1 tz2 tz3
  have hr := row_all [.int .i64 u.h, .int .i64 u.send, .int .i64 u.recv, .int .i64 u.version] (HC.out.kept (w.heap.size + 1 + 1) (.cells #[.int .i64 0, .int .i64 0, .int .i64 0, .int .i64 0] 75 (0, 0) : Obj) (by simp)) rfl
  have hc := chg_setCells (w.heap.size + 1 + 1) [.int .i64 u.h, .int .i64 u.send, .int .i64 u.recv, .int .i64 u.version] 0 w4
  show bodyPost _ _ _ _ _ (w4.setCells (w.heap.size + 1 + 1) 0 [.int .i64 u.h, .int .i64 u.send, .int .i64 u.recv, .int .i64 u.version])
  generalize hwz : w4.setCells (w.heap.size + 1 + 1) 0 [.int .i64 u.h, .int .i64 u.send, .int .i64 u.recv, .int .i64 u.version] = wz at hr hc ⊢
  clear hwz
  obtain ⟨r0, r1, r2, r3⟩ := cell4s hr
  exact bodyPost_ret (v := .tuple #[.agg #[.int .i64 u.h, .int .i64 u.send, .int .i64 u.recv, .int .i64 u.version], .int .i64 0]) (by simp [results, Tryz.results39, go_sem, r0, r1, r2, r3]) rfl ⟨rfl, HC.out.writes gN (b := w.heap.size + 1 + 1) (o := (.cells #[.int .i64 0, .int .i64 0, .int .i64 0, .int .i64 0] 75 (0, 0) : Obj)) (by simp) (by have := HQ.out; omega) hc (fun x q => ⟨by simp [q], fun e => by have := HK.out x.1 x.2 q; omega⟩)⟩
set_option maxHeartbeats 4000000 in
theorem run3 {base g : Nat} {L : List Tm} {bs : List (Nat × Obj)} {w0 w : World} (gN : Good base NoS) (h : Cs base (PSq base g 5000) NoS L [] bs w0 w) {m : Mg} {q : Pnd} {L1 : List Tm} {o : Opd} {L2 : List Tm} {r : Mg} {s : Ses} {L3 : List Tm} {u : Ses} {L4 : List Tm} (R : Hid (RunIs 12 13 14 8 9 L m q L1 o L2 r s L3 u L4)) :
    Calls Tryz.prog 39 #[.pointer (some ⟨g, 0, none⟩), .agg #[.int .i64 1, .int .i64 2, .int .i64 3, .int .i64 4], .agg #[.int .i64 17, .int .i64 18, .int .i64 5, .int .i64 6, .int .i64 15, .int .i64 16, .int .i64 5, .int .i64 6], .int .i64 3] w fun e' w' => e' = .returned (.tuple #[u.v, .int .i64 0]) ∧ Cs base (PSq base g 5000) NoS L4 [] bs w0 w' := by
  have gP := PSq.good base g 5000
  have HC := Lib.hid h
  have HK : Hid (∀ k o, (k, o) ∈ bs → k < w.heap.size) := Lib.hid (fun k o q => h.pair.klt k ⟨o, q⟩)
  have HQ := Lib.hid h.pair.base_le
  clear h
  replace HC := Lib.hid (HC.out.boxB gP gN #[.int .i64 1, .int .i64 2, .int .i64 3, .int .i64 4] 90 (b := w.heap.size) (by simp))
  replace HC := Lib.hid (HC.out.boxB gP gN #[.int .i64 17, .int .i64 18, .int .i64 5, .int .i64 6, .int .i64 15, .int .i64 16, .int .i64 5, .int .i64 6] 91 (b := w.heap.size + 1) (by simp))
  replace HC := Lib.hid (HC.out.boxB gP gN #[.int .i64 0, .int .i64 0, .int .i64 0, .int .i64 0] 75 (b := w.heap.size + 1 + 1) (by simp))
  go_enter Tryz.func39, Tryz.ntmps39
  go_upto_region 1 with fail
  have eb : bits BinOp.and IntKind.i64 3 3 = 3 := by kernel_rfl
  replace HC := Lib.hid (HC.out.boxB gP gN #[.int .i64 7, .int .i64 8, .int .i64 9, .int .i64 12, .int .i64 13, .int .i64 14, .int .i64 7, .int .i64 8, .int .i64 9, .int .i64 12, .int .i64 13, .int .i64 14] 50 (b := w.heap.size + 1 + 1 + 1) (by simp))
  have r1p9 := cell_of_row _ _ 9 _ _ _ (HC.out.kept (w.heap.size + 1 + 1 + 1) (.cells #[.int .i64 7, .int .i64 8, .int .i64 9, .int .i64 12, .int .i64 13, .int .i64 14, .int .i64 7, .int .i64 8, .int .i64 9, .int .i64 12, .int .i64 13, .int .i64 14] 50 (0, 0) : Obj) (by simp))
  have r1p10 := cell_of_row _ _ 10 _ _ _ (HC.out.kept (w.heap.size + 1 + 1 + 1) (.cells #[.int .i64 7, .int .i64 8, .int .i64 9, .int .i64 12, .int .i64 13, .int .i64 14, .int .i64 7, .int .i64 8, .int .i64 9, .int .i64 12, .int .i64 13, .int .i64 14] 50 (0, 0) : Obj) (by simp))
  have r1p11 := cell_of_row _ _ 11 _ _ _ (HC.out.kept (w.heap.size + 1 + 1 + 1) (.cells #[.int .i64 7, .int .i64 8, .int .i64 9, .int .i64 12, .int .i64 13, .int .i64 14, .int .i64 7, .int .i64 8, .int .i64 9, .int .i64 12, .int .i64 13, .int .i64 14] 50 (0, 0) : Obj) (by simp))
  simp at r1p9 r1p10 r1p11
  go_upto_region 2 with fail
  clear r1p9 r1p10 r1p11
  replace HC := Lib.hid (HC.out.boxB gP gN #[.int .i64 12, .int .i64 13, .int .i64 14] 50 (b := w.heap.size + 1 + 1 + 1 + 1) (by simp))
  replace HC := Lib.hid (HC.out.boxB gP gN #[.int .i64 10, .int .i64 11, .int .i64 10, .int .i64 11, .int .i64 12, .int .i64 13, .int .i64 8, .int .i64 9] 41 (b := w.heap.size + 1 + 1 + 1 + 1 + 1) (by simp))
  have r2p6 := cell_of_row _ _ 6 _ _ _ (HC.out.kept (w.heap.size + 1 + 1 + 1 + 1 + 1) (.cells #[.int .i64 10, .int .i64 11, .int .i64 10, .int .i64 11, .int .i64 12, .int .i64 13, .int .i64 8, .int .i64 9] 41 (0, 0) : Obj) (by simp))
  have r2p7 := cell_of_row _ _ 7 _ _ _ (HC.out.kept (w.heap.size + 1 + 1 + 1 + 1 + 1) (.cells #[.int .i64 10, .int .i64 11, .int .i64 10, .int .i64 11, .int .i64 12, .int .i64 13, .int .i64 8, .int .i64 9] 41 (0, 0) : Obj) (by simp))
  simp at r2p6 r2p7
  go_upto_region 3 with fail
  clear r2p6 r2p7
  replace HC := Lib.hid (HC.out.boxB gP gN #[.int .i64 8, .int .i64 9] 41 (b := w.heap.size + 1 + 1 + 1 + 1 + 1 + 1) (by simp))
  have onep0 := cell_of_row _ _ 0 _ _ _ (HC.out.kept (w.heap.size + 1 + 1 + 1 + 1) (.cells #[.int .i64 12, .int .i64 13, .int .i64 14] 50 (0, 0) : Obj) (by simp))
  have onep1 := cell_of_row _ _ 1 _ _ _ (HC.out.kept (w.heap.size + 1 + 1 + 1 + 1) (.cells #[.int .i64 12, .int .i64 13, .int .i64 14] 50 (0, 0) : Obj) (by simp))
  have onep2 := cell_of_row _ _ 2 _ _ _ (HC.out.kept (w.heap.size + 1 + 1 + 1 + 1) (.cells #[.int .i64 12, .int .i64 13, .int .i64 14] 50 (0, 0) : Obj) (by simp))
  simp at onep0 onep1 onep2
  obtain ⟨meg0, meg1, meg2, meg3⟩ := cell4s (HC.out.kept (w.heap.size) (.cells #[.int .i64 1, .int .i64 2, .int .i64 3, .int .i64 4] 90 (0, 0) : Obj) (by simp))
  obtain ⟨ppg0, ppg1, ppg2, ppg3, ppg4, ppg5, ppg6, ppg7⟩ := cell8s (HC.out.kept (w.heap.size + 1) (.cells #[.int .i64 17, .int .i64 18, .int .i64 5, .int .i64 6, .int .i64 15, .int .i64 16, .int .i64 5, .int .i64 6] 91 (0, 0) : Obj) (by simp))
  go_wp2_with fail
  clear onep0 onep1 onep2 meg0 meg1 meg2 meg3 ppg0 ppg1 ppg2 ppg3 ppg4 ppg5 ppg6 ppg7
  refine (HC.out.hbegin gN (a1 := 1) (a2 := 2) (d0 := 12) (d1 := 13) (d2 := 14) (p := pB) (m0 := mIn ⟨#[1]⟩ 0) (stamp := 5) k1 k2 pB_wf (mIn_wf (by decide) (by omega) (by omega)) (by omega) (i64_small (by omega) (by omega)) (i64_small (by omega) (by omega)) (i64_small (by omega) (by omega)) R.out.c1).mono ?_
  rintro e' w1 ⟨rfl, h⟩
  replace HC := Lib.hid h
  clear h
  simp only [Ms.Ms.v, Ms.Ms.cl, Pnd.v]
  replace HC := Lib.hid (HC.out.boxB gP gN #[.int .i64 (m.i 0), .int .u64 (m.i 1), .int .u64 (m.i 2), .string m.s, .int .i64 (m.i 4), .int .i64 (m.i 5), .int .i64 (m.i 6), .int .i64 (m.i 7), .int .i64 (m.i 8), .int .i64 (m.i 9), .int .i64 (m.i 10), .int .u64 (m.i 11), .int .u64 (m.i 12)] 25 (b := w1.heap.size) (by simp))
  replace HC := Lib.hid (HC.out.boxB gP gN #[.int .i64 q.y.CK, .int .i64 q.y.K, .int .i64 q.y.H, .int .u64 q.y.N, .int .i64 q.e, .int .i64 q.ek, .string q.offer] 47 (b := w1.heap.size + 1) (by simp))
  go_upto_region 6 with fail
  obtain ⟨meg0, meg1, meg2, meg3⟩ := cell4s (HC.out.kept (w.heap.size) (.cells #[.int .i64 1, .int .i64 2, .int .i64 3, .int .i64 4] 90 (0, 0) : Obj) (by simp))
  obtain ⟨ppg0, ppg1, ppg2, ppg3, ppg4, ppg5, ppg6, ppg7⟩ := cell8s (HC.out.kept (w.heap.size + 1) (.cells #[.int .i64 17, .int .i64 18, .int .i64 5, .int .i64 6, .int .i64 15, .int .i64 16, .int .i64 5, .int .i64 6] 91 (0, 0) : Obj) (by simp))
  replace HC := Lib.hid (HC.out.boxB gP gN #[.int .i64 15, .int .i64 16, .int .i64 5, .int .i64 6] 43 (b := w1.heap.size + 1 + 1) (by simp))
  obtain ⟨mf0, mf1, mf2, mf3, mf4, mf5, mf6, mf7, mf8, mf9, mf10, mf11, mf12⟩ := cell13s (HC.out.kept (w1.heap.size) (.cells #[.int .i64 (m.i 0), .int .u64 (m.i 1), .int .u64 (m.i 2), .string m.s, .int .i64 (m.i 4), .int .i64 (m.i 5), .int .i64 (m.i 6), .int .i64 (m.i 7), .int .i64 (m.i 8), .int .i64 (m.i 9), .int .i64 (m.i 10), .int .u64 (m.i 11), .int .u64 (m.i 12)] 25 (0, 0) : Obj) (by simp))
  go_wp2_with fail
  clear meg0 meg1 meg2 meg3 ppg0 ppg1 ppg2 ppg3 ppg4 ppg5 ppg6 ppg7 mf0 mf1 mf2 mf3 mf4 mf5 mf6 mf7 mf8 mf9 mf10 mf11 mf12
  have HR : ∀ bs, ((w1.heap.size + 1 + 1, (.cells #[.int .i64 15, .int .i64 16, .int .i64 5, .int .i64 6] 43 (0, 0) : Obj)) : Nat × Obj) ∈ bs → RowB bs (some ⟨w1.heap.size + 1 + 1, 0, none⟩) [pA] := fun bs hm W hk => row_one (p := pA) (hk (w1.heap.size + 1 + 1) (.cells #[.int .i64 15, .int .i64 16, .int .i64 5, .int .i64 6] 43 (0, 0) : Obj) hm)
  refine (HC.out.hopen gN (x := 3) (y := 4) (ps := [pA]) (offer := ⟨#[1]⟩) k3 k4 (by rfl) (by decide) (HR _ (by simp)) (by simp; exact pA_wf) (by decide) R.out.mw R.out.c2).mono ?_
  rintro e' w2 ⟨rfl, h⟩
  replace HC := Lib.hid h
  clear h HR
  simp only [Opd.v]
  replace HC := Lib.hid (HC.out.boxB gP gN #[.int .i64 o.y.CK, .int .i64 o.y.K, .int .i64 o.y.H, .int .u64 o.y.N, .int .i64 o.peer, .int .i64 o.version, .int .u64 o.stamp, .int .i64 o.e, .int .i64 o.ek, .int .i64 o.pub] 64 (b := w2.heap.size) (by simp))
  go_upto_region 9 with fail
  have twop0 := cell_of_row _ _ 0 _ _ _ (HC.out.kept (w.heap.size + 1 + 1 + 1 + 1 + 1 + 1) (.cells #[.int .i64 8, .int .i64 9] 41 (0, 0) : Obj) (by simp))
  have twop1 := cell_of_row _ _ 1 _ _ _ (HC.out.kept (w.heap.size + 1 + 1 + 1 + 1 + 1 + 1) (.cells #[.int .i64 8, .int .i64 9] 41 (0, 0) : Obj) (by simp))
  simp at twop0 twop1
  obtain ⟨of0, of1, of2, of3, of4, of5, of6, of7, of8, of9⟩ := cell10s (HC.out.kept (w2.heap.size) (.cells #[.int .i64 o.y.CK, .int .i64 o.y.K, .int .i64 o.y.H, .int .u64 o.y.N, .int .i64 o.peer, .int .i64 o.version, .int .u64 o.stamp, .int .i64 o.e, .int .i64 o.ek, .int .i64 o.pub] 64 (0, 0) : Obj) (by simp))
  go_wp2_with fail
  clear twop0 twop1 of0 of1 of2 of3 of4 of5 of6 of7 of8 of9
  refine (HC.out.hanswer gN (o := o) (fr := 9) (tt := 7) (d0 := 8) (d1 := 9) R.out.oy (u64_small (by omega) (by omega)) (u64_small (by omega) (by omega)) (i64_small (by omega) (by omega)) (i64_small (by omega) (by omega)) R.out.c3).mono ?_
  rintro e' w3 ⟨rfl, h⟩
  replace HC := Lib.hid h
  clear h
  simp only [Ms.Ms.v, Ms.Ms.cl, Ses.v]
  replace HC := Lib.hid (HC.out.boxB gP gN #[.int .i64 (r.i 0), .int .u64 (r.i 1), .int .u64 (r.i 2), .string r.s, .int .i64 (r.i 4), .int .i64 (r.i 5), .int .i64 (r.i 6), .int .i64 (r.i 7), .int .i64 (r.i 8), .int .i64 (r.i 9), .int .i64 (r.i 10), .int .u64 (r.i 11), .int .u64 (r.i 12)] 25 (b := w3.heap.size) (by simp))
  replace HC := Lib.hid (HC.out.boxB gP gN #[.int .i64 s.h, .int .i64 s.send, .int .i64 s.recv, .int .i64 s.version] 75 (b := w3.heap.size + 1) (by simp))
  go_upto_region 12 with fail
  obtain ⟨mef0, mef1, mef2, mef3⟩ := cell4s (HC.out.kept (w.heap.size) (.cells #[.int .i64 1, .int .i64 2, .int .i64 3, .int .i64 4] 90 (0, 0) : Obj) (by simp))
  obtain ⟨qf0, qf1, qf2, qf3, qf4, qf5, qf6⟩ := cell7s (HC.out.kept (w1.heap.size + 1) (.cells #[.int .i64 q.y.CK, .int .i64 q.y.K, .int .i64 q.y.H, .int .u64 q.y.N, .int .i64 q.e, .int .i64 q.ek, .string q.offer] 47 (0, 0) : Obj) (by simp))
  obtain ⟨rf0, rf1, rf2, rf3, rf4, rf5, rf6, rf7, rf8, rf9, rf10, rf11, rf12⟩ := cell13s (HC.out.kept (w3.heap.size) (.cells #[.int .i64 (r.i 0), .int .u64 (r.i 1), .int .u64 (r.i 2), .string r.s, .int .i64 (r.i 4), .int .i64 (r.i 5), .int .i64 (r.i 6), .int .i64 (r.i 7), .int .i64 (r.i 8), .int .i64 (r.i 9), .int .i64 (r.i 10), .int .u64 (r.i 11), .int .u64 (r.i 12)] 25 (0, 0) : Obj) (by simp))
  go_wp2_with fail
  clear mef0 mef1 mef2 mef3 qf0 qf1 qf2 qf3 qf4 qf5 qf6 rf0 rf1 rf2 rf3 rf4 rf5 rf6 rf7 rf8 rf9 rf10 rf11 rf12
  refine (HC.out.hfinish gN (x := 1) (y := 2) (p := q) (m := r) k1 R.out.qy ⟨R.out.qe, R.out.qk⟩ R.out.rw R.out.c4).mono ?_
  rintro e' w4 ⟨rfl, h⟩
  replace HC := Lib.hid h
  clear h
  simp only [Ses.v]
  obtain ⟨resg0, resg1, resg2, resg3⟩ := cell4s (HC.out.kept (w.heap.size + 1 + 1) (.cells #[.int .i64 0, .int .i64 0, .int .i64 0, .int .i64 0] 75 (0, 0) : Obj) (by simp))
  have tz0 := thaw_of (off := 0) (HC.out.kept (w.heap.size + 1 + 1) (.cells #[.int .i64 0, .int .i64 0, .int .i64 0, .int .i64 0] 75 (0, 0) : Obj) (by simp))
  have tz1 := thaw_of (off := 1) (HC.out.kept (w.heap.size + 1 + 1) (.cells #[.int .i64 0, .int .i64 0, .int .i64 0, .int .i64 0] 75 (0, 0) : Obj) (by simp))
  have tz2 := thaw_of (off := 2) (HC.out.kept (w.heap.size + 1 + 1) (.cells #[.int .i64 0, .int .i64 0, .int .i64 0, .int .i64 0] 75 (0, 0) : Obj) (by simp))
  have tz3 := thaw_of (off := 3) (HC.out.kept (w.heap.size + 1 + 1) (.cells #[.int .i64 0, .int .i64 0, .int .i64 0, .int .i64 0] 75 (0, 0) : Obj) (by simp))
  go_wp2_with fail
  clear resg0 resg1 resg2 resg3 tz0 tz1 tz2 tz3
  have hr := row_all [.int .i64 u.h, .int .i64 u.send, .int .i64 u.recv, .int .i64 u.version] (HC.out.kept (w.heap.size + 1 + 1) (.cells #[.int .i64 0, .int .i64 0, .int .i64 0, .int .i64 0] 75 (0, 0) : Obj) (by simp)) rfl
  have hc := chg_setCells (w.heap.size + 1 + 1) [.int .i64 u.h, .int .i64 u.send, .int .i64 u.recv, .int .i64 u.version] 0 w4
  show bodyPost _ _ _ _ _ (w4.setCells (w.heap.size + 1 + 1) 0 [.int .i64 u.h, .int .i64 u.send, .int .i64 u.recv, .int .i64 u.version])
  generalize hwz : w4.setCells (w.heap.size + 1 + 1) 0 [.int .i64 u.h, .int .i64 u.send, .int .i64 u.recv, .int .i64 u.version] = wz at hr hc ⊢
  clear hwz
  obtain ⟨r0, r1, r2, r3⟩ := cell4s hr
  exact bodyPost_ret (v := .tuple #[.agg #[.int .i64 u.h, .int .i64 u.send, .int .i64 u.recv, .int .i64 u.version], .int .i64 0]) (by simp [results, Tryz.results39, go_sem, r0, r1, r2, r3]) rfl ⟨rfl, HC.out.writes gN (b := w.heap.size + 1 + 1) (o := (.cells #[.int .i64 0, .int .i64 0, .int .i64 0, .int .i64 0] 75 (0, 0) : Obj)) (by simp) (by have := HQ.out; omega) hc (fun x q => ⟨by simp [q], fun e => by have := HK.out x.1 x.2 q; omega⟩)⟩
end Go.Proofs.YtgeonppckeiceaaGreatDoor
