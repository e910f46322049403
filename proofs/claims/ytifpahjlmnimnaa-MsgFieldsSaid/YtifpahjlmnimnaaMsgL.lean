/- Words for the laws: a message that came in, the law's own Cut and Ref, Encode as one contract. -/
import Derived.Test.YtifpahjlmnimnaaMsgDg
import Derived.Test.YtifpahjlmnimnaaMsgQ
import Derived.Deep.Slices
import Derived.WalkKit
import Derived.ProofKit
import Derived.OpenShut
import Derived.ShutString
import Derived.ChangeOld
import Derived.Below
namespace Go.Proofs.Ytifpahjlmnimnaa
open Go.RowKit
open Go.ChangeShapes Go.WideShapes
set_option linter.unusedVariables false
set_option linter.unusedSimpArgs false
set_option maxRecDepth 20000

theorem cellsM : Try.prog.cellsOf 24 = 13 := by kernel_rfl
theorem cellsI : Try.prog.cellsOf 3 = 1 := by kernel_rfl
theorem cellsU : Try.prog.cellsOf 22 = 1 := by kernel_rfl
theorem cellsS : Try.prog.cellsOf 9 = 1 := by kernel_rfl
set_option maxHeartbeats 4000000 in
theorem open_msg {H : Type} {enc : TypeId × Value → H} {w : World} {base : Nat} {sp : Nat → Bool} {held : Bool} {fuel : Nat} {cs : Array Value} {x : DataW H × List MemPlace} (h : DataW.trod enc Try.prog w base sp held fuel 24 cs.toList = some x) :
    ∃ M : Ms, cs = M.cl ∧ M.Wf ∧ Norm M := by
  obtain ⟨l⟩ := cs
  obtain ⟨xs, n, _, rfl, hl, hlen, hf⟩ := DataW.trod_struct Try.underlying24 h
  rw [cellsM] at hl
  match l, hl with
  | [v0, v1, v2, v3, v4, v5, v6, v7, v8, v9, v10, v11, v12], _ =>
    match xs, hlen with
    | [y0, y1, y2, y3, y4, y5, y6, y7, y8, y9, y10, y11, y12], _ =>
      have f0 : DataW.trod enc Try.prog w base sp held n 3 ((([v0, v1, v2, v3, v4, v5, v6, v7, v8, v9, v10, v11, v12] : List Value).drop 0).take (Try.prog.cellsOf 3)) = some y0 := hf 0 _ rfl
      have f1 : DataW.trod enc Try.prog w base sp held n 22 ((([v0, v1, v2, v3, v4, v5, v6, v7, v8, v9, v10, v11, v12] : List Value).drop 1).take (Try.prog.cellsOf 22)) = some y1 := hf 1 _ rfl
      have f2 : DataW.trod enc Try.prog w base sp held n 22 ((([v0, v1, v2, v3, v4, v5, v6, v7, v8, v9, v10, v11, v12] : List Value).drop 2).take (Try.prog.cellsOf 22)) = some y2 := hf 2 _ rfl
      have f3 : DataW.trod enc Try.prog w base sp held n 9 ((([v0, v1, v2, v3, v4, v5, v6, v7, v8, v9, v10, v11, v12] : List Value).drop 3).take (Try.prog.cellsOf 9)) = some y3 := hf 3 _ rfl
      have f4 : DataW.trod enc Try.prog w base sp held n 3 ((([v0, v1, v2, v3, v4, v5, v6, v7, v8, v9, v10, v11, v12] : List Value).drop 4).take (Try.prog.cellsOf 3)) = some y4 := hf 4 _ rfl
      have f5 : DataW.trod enc Try.prog w base sp held n 3 ((([v0, v1, v2, v3, v4, v5, v6, v7, v8, v9, v10, v11, v12] : List Value).drop 5).take (Try.prog.cellsOf 3)) = some y5 := hf 5 _ rfl
      have f6 : DataW.trod enc Try.prog w base sp held n 3 ((([v0, v1, v2, v3, v4, v5, v6, v7, v8, v9, v10, v11, v12] : List Value).drop 6).take (Try.prog.cellsOf 3)) = some y6 := hf 6 _ rfl
      have f7 : DataW.trod enc Try.prog w base sp held n 3 ((([v0, v1, v2, v3, v4, v5, v6, v7, v8, v9, v10, v11, v12] : List Value).drop 7).take (Try.prog.cellsOf 3)) = some y7 := hf 7 _ rfl
      have f8 : DataW.trod enc Try.prog w base sp held n 3 ((([v0, v1, v2, v3, v4, v5, v6, v7, v8, v9, v10, v11, v12] : List Value).drop 8).take (Try.prog.cellsOf 3)) = some y8 := hf 8 _ rfl
      have f9 : DataW.trod enc Try.prog w base sp held n 3 ((([v0, v1, v2, v3, v4, v5, v6, v7, v8, v9, v10, v11, v12] : List Value).drop 9).take (Try.prog.cellsOf 3)) = some y9 := hf 9 _ rfl
      have f10 : DataW.trod enc Try.prog w base sp held n 3 ((([v0, v1, v2, v3, v4, v5, v6, v7, v8, v9, v10, v11, v12] : List Value).drop 10).take (Try.prog.cellsOf 3)) = some y10 := hf 10 _ rfl
      have f11 : DataW.trod enc Try.prog w base sp held n 22 ((([v0, v1, v2, v3, v4, v5, v6, v7, v8, v9, v10, v11, v12] : List Value).drop 11).take (Try.prog.cellsOf 22)) = some y11 := hf 11 _ rfl
      have f12 : DataW.trod enc Try.prog w base sp held n 22 ((([v0, v1, v2, v3, v4, v5, v6, v7, v8, v9, v10, v11, v12] : List Value).drop 12).take (Try.prog.cellsOf 22)) = some y12 := hf 12 _ rfl
      rw [cellsI] at f0 f4 f5 f6 f7 f8 f9 f10
      rw [cellsU] at f1 f2 f11 f12
      rw [cellsS] at f3
      simp at f0 f1 f2 f3 f4 f5 f6 f7 f8 f9 f10 f11 f12
      obtain ⟨x0, e0, _, w0⟩ := DataW.trod_int Try.underlying3 f0
      obtain ⟨x1, e1, _, w1⟩ := DataW.trod_int Try.underlying22 f1
      obtain ⟨x2, e2, _, w2⟩ := DataW.trod_int Try.underlying22 f2
      obtain ⟨x3, e3, _, w3⟩ := DataW.trod_string Try.underlying9 f3
      obtain ⟨x4, e4, _, w4⟩ := DataW.trod_int Try.underlying3 f4
      obtain ⟨x5, e5, _, w5⟩ := DataW.trod_int Try.underlying3 f5
      obtain ⟨x6, e6, _, w6⟩ := DataW.trod_int Try.underlying3 f6
      obtain ⟨x7, e7, _, w7⟩ := DataW.trod_int Try.underlying3 f7
      obtain ⟨x8, e8, _, w8⟩ := DataW.trod_int Try.underlying3 f8
      obtain ⟨x9, e9, _, w9⟩ := DataW.trod_int Try.underlying3 f9
      obtain ⟨x10, e10, _, w10⟩ := DataW.trod_int Try.underlying3 f10
      obtain ⟨x11, e11, _, w11⟩ := DataW.trod_int Try.underlying22 f11
      obtain ⟨x12, e12, _, w12⟩ := DataW.trod_int Try.underlying22 f12
      simp at e0 e1 e2 e3 e4 e5 e6 e7 e8 e9 e10 e11 e12
      refine ⟨⟨fun j => match j with | 0 => x0 | 1 => x1 | 2 => x2 | 4 => x4 | 5 => x5 | 6 => x6 | 7 => x7 | 8 => x8 | 9 => x9 | 10 => x10 | 11 => x11 | 12 => x12 | _ => 0, x3⟩, by simp [Ms.cl, e0, e1, e2, e3, e4, e5, e6, e7, e8, e9, e10, e11, e12], ⟨fun j hj => ?_, w3⟩, fun j hj => ?_⟩
      · simp only [nCell, Bool.and_eq_true, decide_eq_true_eq, Bool.not_eq_true', beq_eq_false_iff_ne, ne_eq] at hj
        match j, hj with
        | 0, _ => exact w0
        | 1, _ => exact w1
        | 2, _ => exact w2
        | 3, h => exact absurd rfl h.2
        | 4, _ => exact w4
        | 5, _ => exact w5
        | 6, _ => exact w6
        | 7, _ => exact w7
        | 8, _ => exact w8
        | 9, _ => exact w9
        | 10, _ => exact w10
        | 11, _ => exact w11
        | 12, _ => exact w12
        | n + 13, h => omega
      · match j, hj with
        | 0, h => omega
        | 1, h => omega
        | 2, h => omega
        | 3, _ => rfl
        | 4, h => omega
        | 5, h => omega
        | 6, h => omega
        | 7, h => omega
        | 8, h => omega
        | 9, h => omega
        | 10, h => omega
        | 11, h => omega
        | 12, h => omega
        | n + 13, _ => rfl
theorem right_wf {M : Ms} (h : rightM M = true) : M.Wf := by
  have key : ∀ (g : Nat → Prop), (∀ j, nCell j = true → 0 ≤ M.i j ∧ M.i j ≤ 4294967296) → M.Wf := by
    intro _ hj
    refine ⟨fun j hn => ?_, by have := right_ofs h; unfold maxLen; omega⟩
    have := hj j hn
    unfold kCell
    split
    · rw [wf_u64]; omega
    · rw [wf_i64]; omega
  refine key (fun _ => True) fun j hj => ?_
  simp only [nCell, Bool.and_eq_true, decide_eq_true_eq, Bool.not_eq_true', beq_eq_false_iff_ne, ne_eq] at hj
  have hk := kind_facts h
  have hk' : 1 ≤ M.i 0 ∧ M.i 0 ≤ 4 := by omega
  rcases fds_cases (M.i 0) with e | e | e | e | ⟨_, _, _, _, e⟩
  · obtain ⟨h1, _, h2, h3, h4, h5, h6, h7, h8, h9, h10, h11⟩ := (right1_iff M e).1 h
    have a1 := iv_le h1; have a2 := iv_le h2; have a3 := iv_le h3; have a4 := iv_le h4; have a5 := iv_le h5; have a6 := iv_le h6; have a7 := iv_le h7
    match j, hj with
    | 0, _ => omega
    | 1, _ => omega
    | 2, _ => omega
    | 3, h => exact absurd rfl h.2
    | 4, _ => omega
    | 5, _ => omega
    | 6, _ => omega
    | 7, _ => omega
    | 8, _ => omega
    | 9, _ => omega
    | 10, _ => omega
    | 11, _ => omega
    | 12, _ => omega
    | n + 13, h => omega
  · obtain ⟨h1, h2, h3, h4, h5, _, h6, h7, h8, h9, h10, h11⟩ := (right2_iff M e).1 h
    have a1 := iv_le h1; have a2 := iv_le h2; have a3 := iv_le h3; have a4 := iv_le h4; have a5 := iv_le h5
    match j, hj with
    | 0, _ => omega
    | 1, _ => omega
    | 2, _ => omega
    | 3, h => exact absurd rfl h.2
    | 4, _ => omega
    | 5, _ => omega
    | 6, _ => omega
    | 7, _ => omega
    | 8, _ => omega
    | 9, _ => omega
    | 10, _ => omega
    | 11, _ => omega
    | 12, _ => omega
    | n + 13, h => omega
  · obtain ⟨h1, h2, h3, _, h4, h5, h6, h7, h8, h9, h10, h11⟩ := (right3_iff M e).1 h
    have a1 := iv_le h1; have a2 := iv_le h2
    match j, hj with
    | 0, _ => omega
    | 1, _ => omega
    | 2, _ => omega
    | 3, h => exact absurd rfl h.2
    | 4, _ => omega
    | 5, _ => omega
    | 6, _ => omega
    | 7, _ => omega
    | 8, _ => omega
    | 9, _ => omega
    | 10, _ => omega
    | 11, _ => omega
    | 12, _ => omega
    | n + 13, h => omega
  · obtain ⟨h1, h2, h3, h4, h5, _, h6, h7, h8, h9, h10, h11⟩ := (right4_iff M e).1 h
    have a1 := iv_le h1; have a2 := iv_le h2; have a3 := iv_le h3; have a4 := iv_le h4
    match j, hj with
    | 0, _ => omega
    | 1, _ => omega
    | 2, _ => omega
    | 3, h => exact absurd rfl h.2
    | 4, _ => omega
    | 5, _ => omega
    | 6, _ => omega
    | 7, _ => omega
    | 8, _ => omega
    | 9, _ => omega
    | 10, _ => omega
    | 11, _ => omega
    | 12, _ => omega
    | n + 13, h => omega
  · rw [right_nofds e] at h; cases h
theorem dec_wf {s : ByteArray} {M : Ms} {E : Nat} (h : decM s = (M, E)) : M.Wf := by
  by_cases hE : E = 0
  · subst hE; exact right_wf (dec_back h).1
  · rw [dec_zero h hE]; exact zeroM_wf 0 (by decide)
theorem names_l (M : Ms) (w : World) (hM : M.Wf) :
    Calls Try.prog 18 #[M.v] w fun e w' => ∃ a n cap, e = .returned (.slice a n cap) ∧ n = (namesM M).length ∧ RowAt .i64 w' a cap (namesM M) ∧ Below w.heap.size w w' := by
  refine (names_k M w hM).mono ?_
  rintro e w1 ⟨v, rfl, ho, hb⟩
  obtain ⟨a, cap, rfl, hr⟩ := ho.at
  exact ⟨a, _, cap, rfl, rfl, hr, hb⟩
/-- Encode, of either side, as one contract. -/
theorem enc_k (M : Ms) (w : World) (hM : M.Wf) (t : ByteArray) (ht : Hid (encM M = t)) :
    Calls Try.prog 15 #[M.v] w fun e w' => e = .returned (.string t) ∧ Below w.heap.size w w' := by
  have h := ht.out
  unfold encM at h
  cases hr : rightM M with
  | false =>
    rw [hr, if_neg (by decide)] at h
    subst h
    exact enc_none M w hM (Lib.hid hr)
  | true =>
    rw [hr, if_pos rfl] at h
    exact enc_some M w hM (Lib.hid hr) t (Lib.hid h)
theorem renc_k (M : Ms) (w : World) (hM : M.Wf) (t : ByteArray) (ht : Hid (encM M = t)) :
    Calls Try.prog 16 #[M.v] w fun e w' => e = .returned (.string t) ∧ Below w.heap.size w w' := by
  have h := ht.out
  unfold encM at h
  cases hr : rightM M with
  | false =>
    rw [hr, if_neg (by decide)] at h
    subst h
    exact renc_no M w hM (Lib.hid hr)
  | true =>
    rw [hr, if_pos rfl] at h
    exact renc_yes M w hM (Lib.hid hr) t (Lib.hid h)
set_option maxHeartbeats 2000000 in
set_option maxRecDepth 100000 in
theorem cut_k (M : Ms) (w : World) (hM : M.Wf) (p : ByteArray) (m0 : min (M.s.size : Int) 30 = p.size) (u0 : p.size ≤ M.s.size) (x0 : M.s.extract 0 p.size = p) :
    Calls Try.prog 9 #[M.v] w fun e w' => e = .returned (M.setS p).v ∧ Below w.heap.size w w' := by
  have n0 : (if (30 : Int) < (M.s.size : Int) then (30 : Int) else (M.s.size : Int)) = (p.size : Int) := by rw [← m0]; omega
  have hw := hM.s
  unfold maxLen at hw
  have HX : Hid (M.s.extract 0 (min (M.s.size : Int) 30).toNat = p) := Lib.hid (by rw [m0]; simpa using x0)
  clear m0 hM
  show Calls Try.prog 9 #[.agg #[.int .i64 (M.i 0), .int .u64 (M.i 1), .int .u64 (M.i 2), .string M.s, .int .i64 (M.i 4), .int .i64 (M.i 5), .int .i64 (M.i 6), .int .i64 (M.i 7), .int .i64 (M.i 8), .int .i64 (M.i 9), .int .i64 (M.i 10), .int .u64 (M.i 11), .int .u64 (M.i 12)]] w fun e w' => e = .returned (.agg #[.int .i64 (M.i 0), .int .u64 (M.i 1), .int .u64 (M.i 2), .string p, .int .i64 (M.i 4), .int .i64 (M.i 5), .int .i64 (M.i 6), .int .i64 (M.i 7), .int .i64 (M.i 8), .int .i64 (M.i 9), .int .i64 (M.i 10), .int .u64 (M.i 11), .int .u64 (M.i 12)]) ∧ Below w.heap.size w w'
  go_enter Try.func9, Try.ntmps9
  go_wp2_with fail
  rw [HX.out]
  exact bodyPost_ret (v := .agg #[.int .i64 (M.i 0), .int .u64 (M.i 1), .int .u64 (M.i 2), .string p, .int .i64 (M.i 4), .int .i64 (M.i 5), .int .i64 (M.i 6), .int .i64 (M.i 7), .int .i64 (M.i 8), .int .i64 (M.i 9), .int .i64 (M.i 10), .int .u64 (M.i 11), .int .u64 (M.i 12)]) (by simp [results, Try.results9, go_sem]) rfl ⟨rfl, ((Below.refl _ _).alloc (Nat.le_refl _) _).alloc (by simp) _⟩
set_option maxHeartbeats 2000000 in
set_option maxRecDepth 100000 in
theorem ref_k (M : Ms) (w : World) :
    Calls Try.prog 14 #[M.v] w fun e w' => e = .returned M.v ∧ Below w.heap.size w w' := by
  show Calls Try.prog 14 #[.agg #[.int .i64 (M.i 0), .int .u64 (M.i 1), .int .u64 (M.i 2), .string M.s, .int .i64 (M.i 4), .int .i64 (M.i 5), .int .i64 (M.i 6), .int .i64 (M.i 7), .int .i64 (M.i 8), .int .i64 (M.i 9), .int .i64 (M.i 10), .int .u64 (M.i 11), .int .u64 (M.i 12)]] w fun e w' => e = .returned (.agg #[.int .i64 (M.i 0), .int .u64 (M.i 1), .int .u64 (M.i 2), .string M.s, .int .i64 (M.i 4), .int .i64 (M.i 5), .int .i64 (M.i 6), .int .i64 (M.i 7), .int .i64 (M.i 8), .int .i64 (M.i 9), .int .i64 (M.i 10), .int .u64 (M.i 11), .int .u64 (M.i 12)]) ∧ Below w.heap.size w w'
  go_enter Try.func14, Try.ntmps14
  go_wp2_with fail
  exact bodyPost_ret (v := .agg #[.int .i64 (M.i 0), .int .u64 (M.i 1), .int .u64 (M.i 2), .string M.s, .int .i64 (M.i 4), .int .i64 (M.i 5), .int .i64 (M.i 6), .int .i64 (M.i 7), .int .i64 (M.i 8), .int .i64 (M.i 9), .int .i64 (M.i 10), .int .u64 (M.i 11), .int .u64 (M.i 12)]) (by simp [results, Try.results14, go_sem]) rfl ⟨rfl, ((Below.refl _ _).alloc (Nat.le_refl _) _).alloc (by simp) _⟩
end Go.Proofs.Ytifpahjlmnimnaa
