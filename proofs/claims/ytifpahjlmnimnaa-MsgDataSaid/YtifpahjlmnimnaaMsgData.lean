/- MsgData: a Data may be just if its numbers are within their bounds. No condition. -/
import Derived.Test.YtifpahjlmnimnaaRows
import Derived.Test.YtifpahjlmnimnaaMsgV
import Derived.WalkKit
import Derived.ProofKit
import Derived.OpenShut
import Derived.ShutString
import Derived.ChangeOld
import Derived.Below
namespace Go.Proofs.Ytifpahjlmnimnaa.msgData
open Go.ChangeShapes Go.WideShapes Go.ChangeAt Go.RowKit
open Go.ChangeMaps (open_string shut_string)
open Go.Proofs.Ytifpahjlmnimnaa
set_option linter.unusedVariables false
set_option linter.unusedSimpArgs false
set_option maxRecDepth 20000

theorem own : ownKnob Try.prog.godebug = none := by kernel_rfl
theorem laidOut : laidOutB Try.prog = true := by kernel_rfl
set_option maxHeartbeats 16000000 in
set_option maxRecDepth 100000 in
theorem walkN (a b n c : Int) (D : Ms) (s : ByteArray) (w : World) (hD : D.Wf) (hn : Norm D) (hcl : D.cl = #[.int .i64 4, .int .u64 0, .int .u64 a, .string ⟨#[]⟩, .int .i64 0, .int .i64 0, .int .i64 0, .int .i64 0, .int .i64 0, .int .i64 c, .int .i64 0, .int .u64 b, .int .u64 n]) (hs : encM D = s)
    (hr : rightM D = true ↔ 1 ≤ a ∧ a ≤ 4294967296 ∧ b ≤ 1000 ∧ n ≤ 255 ∧ 1 ≤ c ∧ c ≤ 1048576) (h4 : rightM D = true → s.extract 0 1 = ⟨#[4]⟩) :
    Calls Try.prog 8 #[.agg #[.int .u64 a, .int .u64 b, .int .u64 n], .int .i64 c] w fun e w' => e = .returned (.bool true) ∧ Below w.heap.size w w' := by
  have HD := Lib.hid hD
  have HN := Lib.hid hn
  have HCL := Lib.hid hcl
  have HS := Lib.hid hs
  have HR := Lib.hid hr
  have H4 := Lib.hid h4
  clear hD hn hcl hs hr h4
  have HBB : Hid (Below w.heap.size w w) := Lib.hid (Below.refl _ _)
  go_enter Try.func8, Try.ntmps8
  go_wp2_with fail
  obtain ⟨u0, hu0⟩ : ∃ x, x = w.alloc (.cells #[.int .u64 a, .int .u64 b, .int .u64 n] 50) := ⟨_, rfl⟩
  have HA : u0.heap[w.heap.size]? = some (.cells #[.int .u64 a, .int .u64 b, .int .u64 n] 50 (0, 0)) := by rw [hu0]; exact heap_alloc_new w _
  obtain ⟨qa, hqa⟩ : ∃ q, q = w.heap.size := ⟨_, rfl⟩
  replace HBB : Hid (Below w.heap.size w u0) := Lib.hid (by rw [hu0]; exact below_alloc _ _)
  rw [← hqa] at HA
  rw [← hu0, ← hqa]
  clear hu0 hqa
  have a0 := cell_at 0 HA
  have a1 := cell_at 1 HA
  have a2 := cell_at 2 HA
  simp at a0 a1 a2
  clear HA
  refine wp_region_held_drew (S := fun w' => w'.cell? ⟨qa, 0, none⟩ = some (.int .u64 a) ∧ w'.cell? ⟨qa, 1, none⟩ = some (.int .u64 b) ∧ w'.cell? ⟨qa, 2, none⟩ = some (.int .u64 n)) (by kernel_rfl) ⟨a0, a1, a2⟩ (fun hHeld => ?_)
  replace HBB := Lib.hid (below_drewn HBB.out)
  clear a0 a1 a2
  refine wpAnyH_take (i := 0) (oi := ?o1) (v := ?v1) ?i1 (by kernel_rfl) (by kernel_rfl) (by kernel_rfl) ?q1 (Or.inl ⟨?w1, ?y1⟩) (by assumption) ?r1
  case' i1 => simp only [List.getElem?_toArray, List.getElem?_cons_succ, List.getElem?_cons_zero]
  case i1 => rfl
  case q1 => exact fun _ _ _ h => h
  case w1 => rfl
  case y1 => (intro w hSw; go_simp) <;> with_reducible rfl
  try simp only [Act.put, List.setIfInBounds_toArray, List.set_cons_zero, List.set_cons_succ]
  refine wpAnyH_take (i := 1) (oi := ?o2) (v := ?v2) ?i2 (by kernel_rfl) (by kernel_rfl) (by kernel_rfl) ?q2 (Or.inl ⟨?w2, ?y2⟩) (by assumption) ?r2
  case' i2 => simp only [List.getElem?_toArray, List.getElem?_cons_succ, List.getElem?_cons_zero]
  case i2 => rfl
  case q2 => exact fun _ _ _ h => h
  case w2 => rfl
  case y2 => (intro w hSw; obtain ⟨k0, k1, k2⟩ := hSw; go_simp) <;> with_reducible rfl
  try simp only [Act.put, List.setIfInBounds_toArray, List.set_cons_zero, List.set_cons_succ]
  refine wpAnyH_take (i := 2) (oi := ?o3) (v := ?v3) ?i3 (by kernel_rfl) (by kernel_rfl) (by kernel_rfl) ?q3 (Or.inl ⟨?w3, ?y3⟩) (by assumption) ?r3
  case' i3 => simp only [List.getElem?_toArray, List.getElem?_cons_succ, List.getElem?_cons_zero]
  case i3 => rfl
  case q3 => exact fun _ _ _ h => h
  case w3 => rfl
  case y3 => (intro w hSw; go_simp) <;> with_reducible rfl
  try simp only [Act.put, List.setIfInBounds_toArray, List.set_cons_zero, List.set_cons_succ]
  refine wpAnyH_take (i := 3) (oi := ?o4) (v := ?v4) ?i4 (by kernel_rfl) (by kernel_rfl) (by kernel_rfl) ?q4 (Or.inl ⟨?w4, ?y4⟩) (by assumption) ?r4
  case' i4 => simp only [List.getElem?_toArray, List.getElem?_cons_succ, List.getElem?_cons_zero]
  case i4 => rfl
  case q4 => exact fun _ _ _ h => h
  case w4 => rfl
  case y4 => (intro w hSw; obtain ⟨k0, k1, k2⟩ := hSw; go_simp) <;> with_reducible rfl
  try simp only [Act.put, List.setIfInBounds_toArray, List.set_cons_zero, List.set_cons_succ]
  refine wpAnyH_take (i := 4) (oi := ?o5) (v := ?v5) ?i5 (by kernel_rfl) (by kernel_rfl) (by kernel_rfl) ?q5 (Or.inl ⟨?w5, ?y5⟩) (by assumption) ?r5
  case' i5 => simp only [List.getElem?_toArray, List.getElem?_cons_succ, List.getElem?_cons_zero]
  case i5 => rfl
  case q5 => exact fun _ _ _ h => h
  case w5 => rfl
  case y5 => (intro w hSw; go_simp) <;> with_reducible rfl
  try simp only [Act.put, List.setIfInBounds_toArray, List.set_cons_zero, List.set_cons_succ]
  refine wpAnyH_take (i := 5) (oi := ?o6) (v := ?v6) ?i6 (by kernel_rfl) (by kernel_rfl) (by kernel_rfl) ?q6 (Or.inl ⟨?w6, ?y6⟩) (by assumption) ?r6
  case' i6 => simp only [List.getElem?_toArray, List.getElem?_cons_succ, List.getElem?_cons_zero]
  case i6 => rfl
  case q6 => exact fun _ _ _ h => h
  case w6 => rfl
  case y6 => (intro w hSw; obtain ⟨k0, k1, k2⟩ := hSw; go_simp) <;> with_reducible rfl
  try simp only [Act.put, List.setIfInBounds_toArray, List.set_cons_zero, List.set_cons_succ]
  refine wpAnyH_take (i := 6) (oi := ?o7) (v := ?v7) ?i7 (by kernel_rfl) (by kernel_rfl) (by kernel_rfl) ?q7 (Or.inl ⟨?w7, ?y7⟩) (by assumption) ?r7
  case' i7 => simp only [List.getElem?_toArray, List.getElem?_cons_succ, List.getElem?_cons_zero]
  case i7 => rfl
  case q7 => exact fun _ _ _ h => h
  case w7 => rfl
  case y7 => (intro w hSw; go_simp) <;> with_reducible rfl
  try simp only [Act.put, List.setIfInBounds_toArray, List.set_cons_zero, List.set_cons_succ]
  refine wpAnyH_take (i := 7) (oi := ?o8) (v := ?v8) ?i8 (by kernel_rfl) (by kernel_rfl) (by kernel_rfl) ?q8 (Or.inl ⟨?w8, ?y8⟩) (by assumption) ?r8
  case' i8 => simp only [List.getElem?_toArray, List.getElem?_cons_succ, List.getElem?_cons_zero]
  case i8 => rfl
  case q8 => exact fun _ _ _ h => h
  case w8 => rfl
  case y8 => (intro w hSw; go_simp) <;> with_reducible rfl
  try simp only [Act.put, List.setIfInBounds_toArray, List.set_cons_zero, List.set_cons_succ]
  refine wpAnyH_take (i := 8) (oi := ?o9) (v := ?v9) ?i9 (by kernel_rfl) (by kernel_rfl) (by kernel_rfl) ?q9 (Or.inl ⟨?w9, ?y9⟩) (by assumption) ?r9
  case' i9 => simp only [List.getElem?_toArray, List.getElem?_cons_succ, List.getElem?_cons_zero]
  case i9 => rfl
  case q9 => exact fun _ _ _ h => h
  case w9 => rfl
  case y9 => (intro w hSw; go_simp) <;> with_reducible rfl
  try simp only [Act.put, List.setIfInBounds_toArray, List.set_cons_zero, List.set_cons_succ]
  refine wpAnyH_done (by kernel_rfl) ?_ _
  clear hHeld
  generalize u0.drew = v1 at HBB ⊢
  by_cases p1 : 1 ≤ a
  · skip
    have dp1 : decide (1 ≤ a) = true := by simp; omega
    by_cases p2 : a ≤ 4294967296
    · skip
      have dp2 : decide (a ≤ 4294967296) = true := by simp; omega
      by_cases p3 : b ≤ 1000
      · skip
        have dp3 : decide (b ≤ 1000) = true := by simp; omega
        by_cases p4 : n ≤ 255
        · skip
          have dp4 : decide (n < 256) = true := by simp; omega
          by_cases p5 : 1 ≤ c
          · skip
            have dp5 : decide (1 ≤ c) = true := by simp; omega
            by_cases p6 : c ≤ 1048576
            · skip
              have dp6 : decide (c ≤ 1048576) = true := by simp; omega
              have hr : rightM D = true := HR.out.2 ⟨p1, p2, p3, p4, p5, p6⟩
              have h4 := H4.out hr
              have hl := enc_len hr
              rw [HS.out] at hl
              have hl1 : (1 : Int) ≤ s.size := by omega
              have q4 : (s.extract 0 1).toList = [4] := by rw [h4, ByteArray.toList_eq]
              have hne : s.toList.isEmpty = false := by rw [← HS.out]; exact enc_full hr
              have HRF := Lib.hid hr
              have HL : Hid (s.size ≤ 1000000) := Lib.hid (by omega)
              have HDE : Hid (decM s = (D, 0)) := Lib.hid (by rw [← HS.out]; exact dec_enc HN.out hr)
              clear hr h4 hl p1 p2 p3 p4 p5 p6
              obtain ⟨kd0, kd1, kd2, kd3, kd4, kd5, kd6, kd7, kd8, kd9, kd10, kd11, kd12⟩ := (show MsgAt (v1.alloc (.cells #[.int .i64 4, .int .u64 0, .int .u64 a, .string ⟨#[]⟩, .int .i64 0, .int .i64 0, .int .i64 0, .int .i64 0, .int .i64 0, .int .i64 c, .int .i64 0, .int .u64 b, .int .u64 n] 24)) v1.heap.size D by unfold MsgAt; rw [HCL.out]; exact heap_alloc_new _ _).cells
              go_wp2_with fail
              clear kd0 kd1 kd2 kd3 kd4 kd5 kd6 kd7 kd8 kd9 kd10 kd11 kd12
              obtain ⟨u1, hu1⟩ : ∃ wx, wx = v1.alloc (.cells #[.int .i64 4, .int .u64 0, .int .u64 a, .string ⟨#[]⟩, .int .i64 0, .int .i64 0, .int .i64 0, .int .i64 0, .int .i64 0, .int .i64 c, .int .i64 0, .int .u64 b, .int .u64 n] 24) := ⟨_, rfl⟩
              obtain ⟨qd, hqd⟩ : ∃ q, q = v1.heap.size := ⟨_, rfl⟩
              have Hd : Hid (MsgAt u1 qd D) := Lib.hid (by unfold MsgAt; rw [HCL.out, hu1, hqd]; exact heap_alloc_new v1 _)
              have HQd : Hid (w.heap.size ≤ qd) := Lib.hid (by rw [hqd]; exact HBB.out.size)
              replace HBB := Lib.hid (HBB.out.trans ((show Below v1.heap.size v1 u1 by rw [hu1]; exact below_alloc _ _).mono HBB.out.size))
              rw [← hu1, ← hqd]
              clear hu1 hqd
              refine (enc_k D _ HD.out s HS).mono ?_
              rintro e w2 ⟨rfl, hb⟩
              replace Hd := Lib.hid (Hd.out.below hb)
              replace HBB := Lib.hid (HBB.out.trans (hb.mono HBB.out.size))
              clear hb
              go_wp2_with fail
              refine (decode_l s _ HL.out D 0 0 #[.int .i64 (D.i 0), .int .u64 (D.i 1), .int .u64 (D.i 2), .string D.s, .int .i64 (D.i 4), .int .i64 (D.i 5), .int .i64 (D.i 6), .int .i64 (D.i 7), .int .i64 (D.i 8), .int .i64 (D.i 9), .int .i64 (D.i 10), .int .u64 (D.i 11), .int .u64 (D.i 12)] HDE.out rfl rfl).mono ?_
              rintro e w3 ⟨rfl, hb⟩
              replace Hd := Lib.hid (Hd.out.below hb)
              replace HBB := Lib.hid (HBB.out.trans (hb.mono HBB.out.size))
              clear hb
              obtain ⟨kd0, kd1, kd2, kd3, kd4, kd5, kd6, kd7, kd8, kd9, kd10, kd11, kd12⟩ := (show MsgAt (w3.alloc (.cells #[.int .i64 (D.i 0), .int .u64 (D.i 1), .int .u64 (D.i 2), .string D.s, .int .i64 (D.i 4), .int .i64 (D.i 5), .int .i64 (D.i 6), .int .i64 (D.i 7), .int .i64 (D.i 8), .int .i64 (D.i 9), .int .i64 (D.i 10), .int .u64 (D.i 11), .int .u64 (D.i 12)] 24)) qd D from Hd.out.below (below_alloc _ _)).cells
              go_wp2_with fail
              clear kd0 kd1 kd2 kd3 kd4 kd5 kd6 kd7 kd8 kd9 kd10 kd11 kd12
              obtain ⟨u4, hu4⟩ : ∃ wx, wx = w3.alloc (.cells #[.int .i64 (D.i 0), .int .u64 (D.i 1), .int .u64 (D.i 2), .string D.s, .int .i64 (D.i 4), .int .i64 (D.i 5), .int .i64 (D.i 6), .int .i64 (D.i 7), .int .i64 (D.i 8), .int .i64 (D.i 9), .int .i64 (D.i 10), .int .u64 (D.i 11), .int .u64 (D.i 12)] 24) := ⟨_, rfl⟩
              obtain ⟨qe, hqe⟩ : ∃ q, q = w3.heap.size := ⟨_, rfl⟩
              have He : Hid (MsgAt u4 qe D) := Lib.hid (by rw [hu4, hqe]; exact heap_alloc_new w3 _)
              have HNde : Hid (qd ≠ qe) := Lib.hid (by have := Hd.out.lt; omega)
              replace Hd := Lib.hid (Hd.out.below (show Below w3.heap.size w3 u4 by rw [hu4]; exact below_alloc _ _))
              have HQe : Hid (w.heap.size ≤ qe) := Lib.hid (by rw [hqe]; exact HBB.out.size)
              replace HBB := Lib.hid (HBB.out.trans ((show Below w3.heap.size w3 u4 by rw [hu4]; exact below_alloc _ _).mono HBB.out.size))
              rw [← hu4]
              clear hu4
              rw [← hqe]
              clear hqe
              refine (right_k D _ HD.out true HRF).mono ?_
              rintro e w5 ⟨rfl, hb⟩
              replace Hd := Lib.hid (Hd.out.below hb)
              replace He := Lib.hid (He.out.below hb)
              replace HBB := Lib.hid (HBB.out.trans (hb.mono HBB.out.size))
              clear hb
              obtain ⟨kd0, kd1, kd2, kd3, kd4, kd5, kd6, kd7, kd8, kd9, kd10, kd11, kd12⟩ := Hd.out.cells
              obtain ⟨ke0, ke1, ke2, ke3, ke4, ke5, ke6, ke7, ke8, ke9, ke10, ke11, ke12⟩ := He.out.cells
              have t6 := fun u => (show (binOp .eql 24 (.agg #[.int .i64 (D.i 0), .int .u64 (D.i 1), .int .u64 (D.i 2), .string D.s, .int .i64 (D.i 4), .int .i64 (D.i 5), .int .i64 (D.i 6), .int .i64 (D.i 7), .int .i64 (D.i 8), .int .i64 (D.i 9), .int .i64 (D.i 10), .int .u64 (D.i 11), .int .u64 (D.i 12)]) (.agg #[.int .i64 (D.i 0), .int .u64 (D.i 1), .int .u64 (D.i 2), .string D.s, .int .i64 (D.i 4), .int .i64 (D.i 5), .int .i64 (D.i 6), .int .i64 (D.i 7), .int .i64 (D.i 8), .int .i64 (D.i 9), .int .i64 (D.i 10), .int .u64 (D.i 11), .int .u64 (D.i 12)])).run Try.prog u = .ok (.bool true) u by have := eqlP D D u; rw [eqM_self] at this; exact this)
              have t7 := guardP
              go_wp2_with fail
              clear kd0 kd1 kd2 kd3 kd4 kd5 kd6 kd7 kd8 kd9 kd10 kd11 kd12
              clear ke0 ke1 ke2 ke3 ke4 ke5 ke6 ke7 ke8 ke9 ke10 ke11 ke12
              clear t6 t7
              refine (fixed_any _).mono ?_
              rintro e w6 ⟨rfl, hb⟩
              replace Hd := Lib.hid (Hd.out.below hb)
              replace He := Lib.hid (He.out.below hb)
              replace HBB := Lib.hid (HBB.out.trans (hb.mono HBB.out.size))
              clear hb
              go_wp2_with fail
              go_ret
              exact ⟨rfl, HBB.out⟩
            · skip
              have dp6 : decide (c ≤ 1048576) = false := by simp; omega
              have hr : rightM D = false := by
                cases h : rightM D with
                | false => rfl
                | true => have := HR.out.1 h; omega
              have hs0 : s = ⟨#[]⟩ := by rw [← HS.out]; exact enc_no hr
              subst hs0
              have HRF := Lib.hid hr
              have HDE : Hid (decM ⟨#[]⟩ = (zeroM 0, 2)) := Lib.hid (by kernel_rfl)
              clear hr
              obtain ⟨kd0, kd1, kd2, kd3, kd4, kd5, kd6, kd7, kd8, kd9, kd10, kd11, kd12⟩ := (show MsgAt (v1.alloc (.cells #[.int .i64 4, .int .u64 0, .int .u64 a, .string ⟨#[]⟩, .int .i64 0, .int .i64 0, .int .i64 0, .int .i64 0, .int .i64 0, .int .i64 c, .int .i64 0, .int .u64 b, .int .u64 n] 24)) v1.heap.size D by unfold MsgAt; rw [HCL.out]; exact heap_alloc_new _ _).cells
              go_wp2_with fail
              clear kd0 kd1 kd2 kd3 kd4 kd5 kd6 kd7 kd8 kd9 kd10 kd11 kd12
              obtain ⟨u1, hu1⟩ : ∃ wx, wx = v1.alloc (.cells #[.int .i64 4, .int .u64 0, .int .u64 a, .string ⟨#[]⟩, .int .i64 0, .int .i64 0, .int .i64 0, .int .i64 0, .int .i64 0, .int .i64 c, .int .i64 0, .int .u64 b, .int .u64 n] 24) := ⟨_, rfl⟩
              obtain ⟨qd, hqd⟩ : ∃ q, q = v1.heap.size := ⟨_, rfl⟩
              have Hd : Hid (MsgAt u1 qd D) := Lib.hid (by unfold MsgAt; rw [HCL.out, hu1, hqd]; exact heap_alloc_new v1 _)
              have HQd : Hid (w.heap.size ≤ qd) := Lib.hid (by rw [hqd]; exact HBB.out.size)
              replace HBB := Lib.hid (HBB.out.trans ((show Below v1.heap.size v1 u1 by rw [hu1]; exact below_alloc _ _).mono HBB.out.size))
              rw [← hu1, ← hqd]
              clear hu1 hqd
              refine (enc_k D _ HD.out ⟨#[]⟩ HS).mono ?_
              rintro e w2 ⟨rfl, hb⟩
              replace Hd := Lib.hid (Hd.out.below hb)
              replace HBB := Lib.hid (HBB.out.trans (hb.mono HBB.out.size))
              clear hb
              go_wp2_with fail
              refine (decode_l ⟨#[]⟩ _ (by decide) (zeroM 0) 2 2 #[.int .i64 0, .int .u64 0, .int .u64 0, .string ⟨#[]⟩, .int .i64 0, .int .i64 0, .int .i64 0, .int .i64 0, .int .i64 0, .int .i64 0, .int .i64 0, .int .u64 0, .int .u64 0] HDE.out rfl rfl).mono ?_
              rintro e w3 ⟨rfl, hb⟩
              replace Hd := Lib.hid (Hd.out.below hb)
              replace HBB := Lib.hid (HBB.out.trans (hb.mono HBB.out.size))
              clear hb
              obtain ⟨kd0, kd1, kd2, kd3, kd4, kd5, kd6, kd7, kd8, kd9, kd10, kd11, kd12⟩ := (show MsgAt (w3.alloc (.cells #[.int .i64 0, .int .u64 0, .int .u64 0, .string ⟨#[]⟩, .int .i64 0, .int .i64 0, .int .i64 0, .int .i64 0, .int .i64 0, .int .i64 0, .int .i64 0, .int .u64 0, .int .u64 0] 24)) qd D from Hd.out.below (below_alloc _ _)).cells
              go_wp2_with fail
              clear kd0 kd1 kd2 kd3 kd4 kd5 kd6 kd7 kd8 kd9 kd10 kd11 kd12
              obtain ⟨u4, hu4⟩ : ∃ wx, wx = w3.alloc (.cells #[.int .i64 0, .int .u64 0, .int .u64 0, .string ⟨#[]⟩, .int .i64 0, .int .i64 0, .int .i64 0, .int .i64 0, .int .i64 0, .int .i64 0, .int .i64 0, .int .u64 0, .int .u64 0] 24) := ⟨_, rfl⟩
              obtain ⟨qe, hqe⟩ : ∃ q, q = w3.heap.size := ⟨_, rfl⟩
              have He : Hid (MsgAt u4 qe (zeroM 0)) := Lib.hid (by rw [hu4, hqe]; exact heap_alloc_new w3 _)
              have HNde : Hid (qd ≠ qe) := Lib.hid (by have := Hd.out.lt; omega)
              replace Hd := Lib.hid (Hd.out.below (show Below w3.heap.size w3 u4 by rw [hu4]; exact below_alloc _ _))
              have HQe : Hid (w.heap.size ≤ qe) := Lib.hid (by rw [hqe]; exact HBB.out.size)
              replace HBB := Lib.hid (HBB.out.trans ((show Below w3.heap.size w3 u4 by rw [hu4]; exact below_alloc _ _).mono HBB.out.size))
              rw [← hu4]
              clear hu4
              rw [← hqe]
              clear hqe
              refine (right_k D _ HD.out false HRF).mono ?_
              rintro e w5 ⟨rfl, hb⟩
              replace Hd := Lib.hid (Hd.out.below hb)
              replace He := Lib.hid (He.out.below hb)
              replace HBB := Lib.hid (HBB.out.trans (hb.mono HBB.out.size))
              clear hb
              go_wp2_with fail
              refine (fixed_any _).mono ?_
              rintro e w6 ⟨rfl, hb⟩
              replace Hd := Lib.hid (Hd.out.below hb)
              replace He := Lib.hid (He.out.below hb)
              replace HBB := Lib.hid (HBB.out.trans (hb.mono HBB.out.size))
              clear hb
              go_wp2_with fail
              go_ret
              exact ⟨rfl, HBB.out⟩
          · skip
            have dp5 : decide (1 ≤ c) = false := by simp; omega
            have ep5 : c < 1 := by omega
            have hr : rightM D = false := by
              cases h : rightM D with
              | false => rfl
              | true => have := HR.out.1 h; omega
            have hs0 : s = ⟨#[]⟩ := by rw [← HS.out]; exact enc_no hr
            subst hs0
            have HRF := Lib.hid hr
            have HDE : Hid (decM ⟨#[]⟩ = (zeroM 0, 2)) := Lib.hid (by kernel_rfl)
            clear hr
            obtain ⟨kd0, kd1, kd2, kd3, kd4, kd5, kd6, kd7, kd8, kd9, kd10, kd11, kd12⟩ := (show MsgAt (v1.alloc (.cells #[.int .i64 4, .int .u64 0, .int .u64 a, .string ⟨#[]⟩, .int .i64 0, .int .i64 0, .int .i64 0, .int .i64 0, .int .i64 0, .int .i64 c, .int .i64 0, .int .u64 b, .int .u64 n] 24)) v1.heap.size D by unfold MsgAt; rw [HCL.out]; exact heap_alloc_new _ _).cells
            go_wp2_with fail
            clear kd0 kd1 kd2 kd3 kd4 kd5 kd6 kd7 kd8 kd9 kd10 kd11 kd12
            obtain ⟨u1, hu1⟩ : ∃ wx, wx = v1.alloc (.cells #[.int .i64 4, .int .u64 0, .int .u64 a, .string ⟨#[]⟩, .int .i64 0, .int .i64 0, .int .i64 0, .int .i64 0, .int .i64 0, .int .i64 c, .int .i64 0, .int .u64 b, .int .u64 n] 24) := ⟨_, rfl⟩
            obtain ⟨qd, hqd⟩ : ∃ q, q = v1.heap.size := ⟨_, rfl⟩
            have Hd : Hid (MsgAt u1 qd D) := Lib.hid (by unfold MsgAt; rw [HCL.out, hu1, hqd]; exact heap_alloc_new v1 _)
            have HQd : Hid (w.heap.size ≤ qd) := Lib.hid (by rw [hqd]; exact HBB.out.size)
            replace HBB := Lib.hid (HBB.out.trans ((show Below v1.heap.size v1 u1 by rw [hu1]; exact below_alloc _ _).mono HBB.out.size))
            rw [← hu1, ← hqd]
            clear hu1 hqd
            refine (enc_k D _ HD.out ⟨#[]⟩ HS).mono ?_
            rintro e w2 ⟨rfl, hb⟩
            replace Hd := Lib.hid (Hd.out.below hb)
            replace HBB := Lib.hid (HBB.out.trans (hb.mono HBB.out.size))
            clear hb
            go_wp2_with fail
            refine (decode_l ⟨#[]⟩ _ (by decide) (zeroM 0) 2 2 #[.int .i64 0, .int .u64 0, .int .u64 0, .string ⟨#[]⟩, .int .i64 0, .int .i64 0, .int .i64 0, .int .i64 0, .int .i64 0, .int .i64 0, .int .i64 0, .int .u64 0, .int .u64 0] HDE.out rfl rfl).mono ?_
            rintro e w3 ⟨rfl, hb⟩
            replace Hd := Lib.hid (Hd.out.below hb)
            replace HBB := Lib.hid (HBB.out.trans (hb.mono HBB.out.size))
            clear hb
            obtain ⟨kd0, kd1, kd2, kd3, kd4, kd5, kd6, kd7, kd8, kd9, kd10, kd11, kd12⟩ := (show MsgAt (w3.alloc (.cells #[.int .i64 0, .int .u64 0, .int .u64 0, .string ⟨#[]⟩, .int .i64 0, .int .i64 0, .int .i64 0, .int .i64 0, .int .i64 0, .int .i64 0, .int .i64 0, .int .u64 0, .int .u64 0] 24)) qd D from Hd.out.below (below_alloc _ _)).cells
            go_wp2_with fail
            clear kd0 kd1 kd2 kd3 kd4 kd5 kd6 kd7 kd8 kd9 kd10 kd11 kd12
            obtain ⟨u4, hu4⟩ : ∃ wx, wx = w3.alloc (.cells #[.int .i64 0, .int .u64 0, .int .u64 0, .string ⟨#[]⟩, .int .i64 0, .int .i64 0, .int .i64 0, .int .i64 0, .int .i64 0, .int .i64 0, .int .i64 0, .int .u64 0, .int .u64 0] 24) := ⟨_, rfl⟩
            obtain ⟨qe, hqe⟩ : ∃ q, q = w3.heap.size := ⟨_, rfl⟩
            have He : Hid (MsgAt u4 qe (zeroM 0)) := Lib.hid (by rw [hu4, hqe]; exact heap_alloc_new w3 _)
            have HNde : Hid (qd ≠ qe) := Lib.hid (by have := Hd.out.lt; omega)
            replace Hd := Lib.hid (Hd.out.below (show Below w3.heap.size w3 u4 by rw [hu4]; exact below_alloc _ _))
            have HQe : Hid (w.heap.size ≤ qe) := Lib.hid (by rw [hqe]; exact HBB.out.size)
            replace HBB := Lib.hid (HBB.out.trans ((show Below w3.heap.size w3 u4 by rw [hu4]; exact below_alloc _ _).mono HBB.out.size))
            rw [← hu4]
            clear hu4
            rw [← hqe]
            clear hqe
            refine (right_k D _ HD.out false HRF).mono ?_
            rintro e w5 ⟨rfl, hb⟩
            replace Hd := Lib.hid (Hd.out.below hb)
            replace He := Lib.hid (He.out.below hb)
            replace HBB := Lib.hid (HBB.out.trans (hb.mono HBB.out.size))
            clear hb
            go_wp2_with fail
            refine (fixed_any _).mono ?_
            rintro e w6 ⟨rfl, hb⟩
            replace Hd := Lib.hid (Hd.out.below hb)
            replace He := Lib.hid (He.out.below hb)
            replace HBB := Lib.hid (HBB.out.trans (hb.mono HBB.out.size))
            clear hb
            go_wp2_with fail
            go_ret
            exact ⟨rfl, HBB.out⟩
        · skip
          have dp4 : decide (n < 256) = false := by simp; omega
          have hr : rightM D = false := by
            cases h : rightM D with
            | false => rfl
            | true => have := HR.out.1 h; omega
          have hs0 : s = ⟨#[]⟩ := by rw [← HS.out]; exact enc_no hr
          subst hs0
          have HRF := Lib.hid hr
          have HDE : Hid (decM ⟨#[]⟩ = (zeroM 0, 2)) := Lib.hid (by kernel_rfl)
          clear hr
          obtain ⟨kd0, kd1, kd2, kd3, kd4, kd5, kd6, kd7, kd8, kd9, kd10, kd11, kd12⟩ := (show MsgAt (v1.alloc (.cells #[.int .i64 4, .int .u64 0, .int .u64 a, .string ⟨#[]⟩, .int .i64 0, .int .i64 0, .int .i64 0, .int .i64 0, .int .i64 0, .int .i64 c, .int .i64 0, .int .u64 b, .int .u64 n] 24)) v1.heap.size D by unfold MsgAt; rw [HCL.out]; exact heap_alloc_new _ _).cells
          go_wp2_with fail
          clear kd0 kd1 kd2 kd3 kd4 kd5 kd6 kd7 kd8 kd9 kd10 kd11 kd12
          obtain ⟨u1, hu1⟩ : ∃ wx, wx = v1.alloc (.cells #[.int .i64 4, .int .u64 0, .int .u64 a, .string ⟨#[]⟩, .int .i64 0, .int .i64 0, .int .i64 0, .int .i64 0, .int .i64 0, .int .i64 c, .int .i64 0, .int .u64 b, .int .u64 n] 24) := ⟨_, rfl⟩
          obtain ⟨qd, hqd⟩ : ∃ q, q = v1.heap.size := ⟨_, rfl⟩
          have Hd : Hid (MsgAt u1 qd D) := Lib.hid (by unfold MsgAt; rw [HCL.out, hu1, hqd]; exact heap_alloc_new v1 _)
          have HQd : Hid (w.heap.size ≤ qd) := Lib.hid (by rw [hqd]; exact HBB.out.size)
          replace HBB := Lib.hid (HBB.out.trans ((show Below v1.heap.size v1 u1 by rw [hu1]; exact below_alloc _ _).mono HBB.out.size))
          rw [← hu1, ← hqd]
          clear hu1 hqd
          refine (enc_k D _ HD.out ⟨#[]⟩ HS).mono ?_
          rintro e w2 ⟨rfl, hb⟩
          replace Hd := Lib.hid (Hd.out.below hb)
          replace HBB := Lib.hid (HBB.out.trans (hb.mono HBB.out.size))
          clear hb
          go_wp2_with fail
          refine (decode_l ⟨#[]⟩ _ (by decide) (zeroM 0) 2 2 #[.int .i64 0, .int .u64 0, .int .u64 0, .string ⟨#[]⟩, .int .i64 0, .int .i64 0, .int .i64 0, .int .i64 0, .int .i64 0, .int .i64 0, .int .i64 0, .int .u64 0, .int .u64 0] HDE.out rfl rfl).mono ?_
          rintro e w3 ⟨rfl, hb⟩
          replace Hd := Lib.hid (Hd.out.below hb)
          replace HBB := Lib.hid (HBB.out.trans (hb.mono HBB.out.size))
          clear hb
          obtain ⟨kd0, kd1, kd2, kd3, kd4, kd5, kd6, kd7, kd8, kd9, kd10, kd11, kd12⟩ := (show MsgAt (w3.alloc (.cells #[.int .i64 0, .int .u64 0, .int .u64 0, .string ⟨#[]⟩, .int .i64 0, .int .i64 0, .int .i64 0, .int .i64 0, .int .i64 0, .int .i64 0, .int .i64 0, .int .u64 0, .int .u64 0] 24)) qd D from Hd.out.below (below_alloc _ _)).cells
          go_wp2_with fail
          clear kd0 kd1 kd2 kd3 kd4 kd5 kd6 kd7 kd8 kd9 kd10 kd11 kd12
          obtain ⟨u4, hu4⟩ : ∃ wx, wx = w3.alloc (.cells #[.int .i64 0, .int .u64 0, .int .u64 0, .string ⟨#[]⟩, .int .i64 0, .int .i64 0, .int .i64 0, .int .i64 0, .int .i64 0, .int .i64 0, .int .i64 0, .int .u64 0, .int .u64 0] 24) := ⟨_, rfl⟩
          obtain ⟨qe, hqe⟩ : ∃ q, q = w3.heap.size := ⟨_, rfl⟩
          have He : Hid (MsgAt u4 qe (zeroM 0)) := Lib.hid (by rw [hu4, hqe]; exact heap_alloc_new w3 _)
          have HNde : Hid (qd ≠ qe) := Lib.hid (by have := Hd.out.lt; omega)
          replace Hd := Lib.hid (Hd.out.below (show Below w3.heap.size w3 u4 by rw [hu4]; exact below_alloc _ _))
          have HQe : Hid (w.heap.size ≤ qe) := Lib.hid (by rw [hqe]; exact HBB.out.size)
          replace HBB := Lib.hid (HBB.out.trans ((show Below w3.heap.size w3 u4 by rw [hu4]; exact below_alloc _ _).mono HBB.out.size))
          rw [← hu4]
          clear hu4
          rw [← hqe]
          clear hqe
          refine (right_k D _ HD.out false HRF).mono ?_
          rintro e w5 ⟨rfl, hb⟩
          replace Hd := Lib.hid (Hd.out.below hb)
          replace He := Lib.hid (He.out.below hb)
          replace HBB := Lib.hid (HBB.out.trans (hb.mono HBB.out.size))
          clear hb
          go_wp2_with fail
          refine (fixed_any _).mono ?_
          rintro e w6 ⟨rfl, hb⟩
          replace Hd := Lib.hid (Hd.out.below hb)
          replace He := Lib.hid (He.out.below hb)
          replace HBB := Lib.hid (HBB.out.trans (hb.mono HBB.out.size))
          clear hb
          go_wp2_with fail
          go_ret
          exact ⟨rfl, HBB.out⟩
      · skip
        have dp3 : decide (b ≤ 1000) = false := by simp; omega
        have hr : rightM D = false := by
          cases h : rightM D with
          | false => rfl
          | true => have := HR.out.1 h; omega
        have hs0 : s = ⟨#[]⟩ := by rw [← HS.out]; exact enc_no hr
        subst hs0
        have HRF := Lib.hid hr
        have HDE : Hid (decM ⟨#[]⟩ = (zeroM 0, 2)) := Lib.hid (by kernel_rfl)
        clear hr
        obtain ⟨kd0, kd1, kd2, kd3, kd4, kd5, kd6, kd7, kd8, kd9, kd10, kd11, kd12⟩ := (show MsgAt (v1.alloc (.cells #[.int .i64 4, .int .u64 0, .int .u64 a, .string ⟨#[]⟩, .int .i64 0, .int .i64 0, .int .i64 0, .int .i64 0, .int .i64 0, .int .i64 c, .int .i64 0, .int .u64 b, .int .u64 n] 24)) v1.heap.size D by unfold MsgAt; rw [HCL.out]; exact heap_alloc_new _ _).cells
        go_wp2_with fail
        clear kd0 kd1 kd2 kd3 kd4 kd5 kd6 kd7 kd8 kd9 kd10 kd11 kd12
        obtain ⟨u1, hu1⟩ : ∃ wx, wx = v1.alloc (.cells #[.int .i64 4, .int .u64 0, .int .u64 a, .string ⟨#[]⟩, .int .i64 0, .int .i64 0, .int .i64 0, .int .i64 0, .int .i64 0, .int .i64 c, .int .i64 0, .int .u64 b, .int .u64 n] 24) := ⟨_, rfl⟩
        obtain ⟨qd, hqd⟩ : ∃ q, q = v1.heap.size := ⟨_, rfl⟩
        have Hd : Hid (MsgAt u1 qd D) := Lib.hid (by unfold MsgAt; rw [HCL.out, hu1, hqd]; exact heap_alloc_new v1 _)
        have HQd : Hid (w.heap.size ≤ qd) := Lib.hid (by rw [hqd]; exact HBB.out.size)
        replace HBB := Lib.hid (HBB.out.trans ((show Below v1.heap.size v1 u1 by rw [hu1]; exact below_alloc _ _).mono HBB.out.size))
        rw [← hu1, ← hqd]
        clear hu1 hqd
        refine (enc_k D _ HD.out ⟨#[]⟩ HS).mono ?_
        rintro e w2 ⟨rfl, hb⟩
        replace Hd := Lib.hid (Hd.out.below hb)
        replace HBB := Lib.hid (HBB.out.trans (hb.mono HBB.out.size))
        clear hb
        go_wp2_with fail
        refine (decode_l ⟨#[]⟩ _ (by decide) (zeroM 0) 2 2 #[.int .i64 0, .int .u64 0, .int .u64 0, .string ⟨#[]⟩, .int .i64 0, .int .i64 0, .int .i64 0, .int .i64 0, .int .i64 0, .int .i64 0, .int .i64 0, .int .u64 0, .int .u64 0] HDE.out rfl rfl).mono ?_
        rintro e w3 ⟨rfl, hb⟩
        replace Hd := Lib.hid (Hd.out.below hb)
        replace HBB := Lib.hid (HBB.out.trans (hb.mono HBB.out.size))
        clear hb
        obtain ⟨kd0, kd1, kd2, kd3, kd4, kd5, kd6, kd7, kd8, kd9, kd10, kd11, kd12⟩ := (show MsgAt (w3.alloc (.cells #[.int .i64 0, .int .u64 0, .int .u64 0, .string ⟨#[]⟩, .int .i64 0, .int .i64 0, .int .i64 0, .int .i64 0, .int .i64 0, .int .i64 0, .int .i64 0, .int .u64 0, .int .u64 0] 24)) qd D from Hd.out.below (below_alloc _ _)).cells
        go_wp2_with fail
        clear kd0 kd1 kd2 kd3 kd4 kd5 kd6 kd7 kd8 kd9 kd10 kd11 kd12
        obtain ⟨u4, hu4⟩ : ∃ wx, wx = w3.alloc (.cells #[.int .i64 0, .int .u64 0, .int .u64 0, .string ⟨#[]⟩, .int .i64 0, .int .i64 0, .int .i64 0, .int .i64 0, .int .i64 0, .int .i64 0, .int .i64 0, .int .u64 0, .int .u64 0] 24) := ⟨_, rfl⟩
        obtain ⟨qe, hqe⟩ : ∃ q, q = w3.heap.size := ⟨_, rfl⟩
        have He : Hid (MsgAt u4 qe (zeroM 0)) := Lib.hid (by rw [hu4, hqe]; exact heap_alloc_new w3 _)
        have HNde : Hid (qd ≠ qe) := Lib.hid (by have := Hd.out.lt; omega)
        replace Hd := Lib.hid (Hd.out.below (show Below w3.heap.size w3 u4 by rw [hu4]; exact below_alloc _ _))
        have HQe : Hid (w.heap.size ≤ qe) := Lib.hid (by rw [hqe]; exact HBB.out.size)
        replace HBB := Lib.hid (HBB.out.trans ((show Below w3.heap.size w3 u4 by rw [hu4]; exact below_alloc _ _).mono HBB.out.size))
        rw [← hu4]
        clear hu4
        rw [← hqe]
        clear hqe
        refine (right_k D _ HD.out false HRF).mono ?_
        rintro e w5 ⟨rfl, hb⟩
        replace Hd := Lib.hid (Hd.out.below hb)
        replace He := Lib.hid (He.out.below hb)
        replace HBB := Lib.hid (HBB.out.trans (hb.mono HBB.out.size))
        clear hb
        go_wp2_with fail
        refine (fixed_any _).mono ?_
        rintro e w6 ⟨rfl, hb⟩
        replace Hd := Lib.hid (Hd.out.below hb)
        replace He := Lib.hid (He.out.below hb)
        replace HBB := Lib.hid (HBB.out.trans (hb.mono HBB.out.size))
        clear hb
        go_wp2_with fail
        go_ret
        exact ⟨rfl, HBB.out⟩
    · skip
      have dp2 : decide (a ≤ 4294967296) = false := by simp; omega
      have hr : rightM D = false := by
        cases h : rightM D with
        | false => rfl
        | true => have := HR.out.1 h; omega
      have hs0 : s = ⟨#[]⟩ := by rw [← HS.out]; exact enc_no hr
      subst hs0
      have HRF := Lib.hid hr
      have HDE : Hid (decM ⟨#[]⟩ = (zeroM 0, 2)) := Lib.hid (by kernel_rfl)
      clear hr
      obtain ⟨kd0, kd1, kd2, kd3, kd4, kd5, kd6, kd7, kd8, kd9, kd10, kd11, kd12⟩ := (show MsgAt (v1.alloc (.cells #[.int .i64 4, .int .u64 0, .int .u64 a, .string ⟨#[]⟩, .int .i64 0, .int .i64 0, .int .i64 0, .int .i64 0, .int .i64 0, .int .i64 c, .int .i64 0, .int .u64 b, .int .u64 n] 24)) v1.heap.size D by unfold MsgAt; rw [HCL.out]; exact heap_alloc_new _ _).cells
      go_wp2_with fail
      clear kd0 kd1 kd2 kd3 kd4 kd5 kd6 kd7 kd8 kd9 kd10 kd11 kd12
      obtain ⟨u1, hu1⟩ : ∃ wx, wx = v1.alloc (.cells #[.int .i64 4, .int .u64 0, .int .u64 a, .string ⟨#[]⟩, .int .i64 0, .int .i64 0, .int .i64 0, .int .i64 0, .int .i64 0, .int .i64 c, .int .i64 0, .int .u64 b, .int .u64 n] 24) := ⟨_, rfl⟩
      obtain ⟨qd, hqd⟩ : ∃ q, q = v1.heap.size := ⟨_, rfl⟩
      have Hd : Hid (MsgAt u1 qd D) := Lib.hid (by unfold MsgAt; rw [HCL.out, hu1, hqd]; exact heap_alloc_new v1 _)
      have HQd : Hid (w.heap.size ≤ qd) := Lib.hid (by rw [hqd]; exact HBB.out.size)
      replace HBB := Lib.hid (HBB.out.trans ((show Below v1.heap.size v1 u1 by rw [hu1]; exact below_alloc _ _).mono HBB.out.size))
      rw [← hu1, ← hqd]
      clear hu1 hqd
      refine (enc_k D _ HD.out ⟨#[]⟩ HS).mono ?_
      rintro e w2 ⟨rfl, hb⟩
      replace Hd := Lib.hid (Hd.out.below hb)
      replace HBB := Lib.hid (HBB.out.trans (hb.mono HBB.out.size))
      clear hb
      go_wp2_with fail
      refine (decode_l ⟨#[]⟩ _ (by decide) (zeroM 0) 2 2 #[.int .i64 0, .int .u64 0, .int .u64 0, .string ⟨#[]⟩, .int .i64 0, .int .i64 0, .int .i64 0, .int .i64 0, .int .i64 0, .int .i64 0, .int .i64 0, .int .u64 0, .int .u64 0] HDE.out rfl rfl).mono ?_
      rintro e w3 ⟨rfl, hb⟩
      replace Hd := Lib.hid (Hd.out.below hb)
      replace HBB := Lib.hid (HBB.out.trans (hb.mono HBB.out.size))
      clear hb
      obtain ⟨kd0, kd1, kd2, kd3, kd4, kd5, kd6, kd7, kd8, kd9, kd10, kd11, kd12⟩ := (show MsgAt (w3.alloc (.cells #[.int .i64 0, .int .u64 0, .int .u64 0, .string ⟨#[]⟩, .int .i64 0, .int .i64 0, .int .i64 0, .int .i64 0, .int .i64 0, .int .i64 0, .int .i64 0, .int .u64 0, .int .u64 0] 24)) qd D from Hd.out.below (below_alloc _ _)).cells
      go_wp2_with fail
      clear kd0 kd1 kd2 kd3 kd4 kd5 kd6 kd7 kd8 kd9 kd10 kd11 kd12
      obtain ⟨u4, hu4⟩ : ∃ wx, wx = w3.alloc (.cells #[.int .i64 0, .int .u64 0, .int .u64 0, .string ⟨#[]⟩, .int .i64 0, .int .i64 0, .int .i64 0, .int .i64 0, .int .i64 0, .int .i64 0, .int .i64 0, .int .u64 0, .int .u64 0] 24) := ⟨_, rfl⟩
      obtain ⟨qe, hqe⟩ : ∃ q, q = w3.heap.size := ⟨_, rfl⟩
      have He : Hid (MsgAt u4 qe (zeroM 0)) := Lib.hid (by rw [hu4, hqe]; exact heap_alloc_new w3 _)
      have HNde : Hid (qd ≠ qe) := Lib.hid (by have := Hd.out.lt; omega)
      replace Hd := Lib.hid (Hd.out.below (show Below w3.heap.size w3 u4 by rw [hu4]; exact below_alloc _ _))
      have HQe : Hid (w.heap.size ≤ qe) := Lib.hid (by rw [hqe]; exact HBB.out.size)
      replace HBB := Lib.hid (HBB.out.trans ((show Below w3.heap.size w3 u4 by rw [hu4]; exact below_alloc _ _).mono HBB.out.size))
      rw [← hu4]
      clear hu4
      rw [← hqe]
      clear hqe
      refine (right_k D _ HD.out false HRF).mono ?_
      rintro e w5 ⟨rfl, hb⟩
      replace Hd := Lib.hid (Hd.out.below hb)
      replace He := Lib.hid (He.out.below hb)
      replace HBB := Lib.hid (HBB.out.trans (hb.mono HBB.out.size))
      clear hb
      go_wp2_with fail
      refine (fixed_any _).mono ?_
      rintro e w6 ⟨rfl, hb⟩
      replace Hd := Lib.hid (Hd.out.below hb)
      replace He := Lib.hid (He.out.below hb)
      replace HBB := Lib.hid (HBB.out.trans (hb.mono HBB.out.size))
      clear hb
      go_wp2_with fail
      go_ret
      exact ⟨rfl, HBB.out⟩
  · skip
    have dp1 : decide (1 ≤ a) = false := by simp; omega
    have ep1 : a < 1 := by omega
    have hr : rightM D = false := by
      cases h : rightM D with
      | false => rfl
      | true => have := HR.out.1 h; omega
    have hs0 : s = ⟨#[]⟩ := by rw [← HS.out]; exact enc_no hr
    subst hs0
    have HRF := Lib.hid hr
    have HDE : Hid (decM ⟨#[]⟩ = (zeroM 0, 2)) := Lib.hid (by kernel_rfl)
    clear hr
    obtain ⟨kd0, kd1, kd2, kd3, kd4, kd5, kd6, kd7, kd8, kd9, kd10, kd11, kd12⟩ := (show MsgAt (v1.alloc (.cells #[.int .i64 4, .int .u64 0, .int .u64 a, .string ⟨#[]⟩, .int .i64 0, .int .i64 0, .int .i64 0, .int .i64 0, .int .i64 0, .int .i64 c, .int .i64 0, .int .u64 b, .int .u64 n] 24)) v1.heap.size D by unfold MsgAt; rw [HCL.out]; exact heap_alloc_new _ _).cells
    go_wp2_with fail
    clear kd0 kd1 kd2 kd3 kd4 kd5 kd6 kd7 kd8 kd9 kd10 kd11 kd12
    obtain ⟨u1, hu1⟩ : ∃ wx, wx = v1.alloc (.cells #[.int .i64 4, .int .u64 0, .int .u64 a, .string ⟨#[]⟩, .int .i64 0, .int .i64 0, .int .i64 0, .int .i64 0, .int .i64 0, .int .i64 c, .int .i64 0, .int .u64 b, .int .u64 n] 24) := ⟨_, rfl⟩
    obtain ⟨qd, hqd⟩ : ∃ q, q = v1.heap.size := ⟨_, rfl⟩
    have Hd : Hid (MsgAt u1 qd D) := Lib.hid (by unfold MsgAt; rw [HCL.out, hu1, hqd]; exact heap_alloc_new v1 _)
    have HQd : Hid (w.heap.size ≤ qd) := Lib.hid (by rw [hqd]; exact HBB.out.size)
    replace HBB := Lib.hid (HBB.out.trans ((show Below v1.heap.size v1 u1 by rw [hu1]; exact below_alloc _ _).mono HBB.out.size))
    rw [← hu1, ← hqd]
    clear hu1 hqd
    refine (enc_k D _ HD.out ⟨#[]⟩ HS).mono ?_
    rintro e w2 ⟨rfl, hb⟩
    replace Hd := Lib.hid (Hd.out.below hb)
    replace HBB := Lib.hid (HBB.out.trans (hb.mono HBB.out.size))
    clear hb
    go_wp2_with fail
    refine (decode_l ⟨#[]⟩ _ (by decide) (zeroM 0) 2 2 #[.int .i64 0, .int .u64 0, .int .u64 0, .string ⟨#[]⟩, .int .i64 0, .int .i64 0, .int .i64 0, .int .i64 0, .int .i64 0, .int .i64 0, .int .i64 0, .int .u64 0, .int .u64 0] HDE.out rfl rfl).mono ?_
    rintro e w3 ⟨rfl, hb⟩
    replace Hd := Lib.hid (Hd.out.below hb)
    replace HBB := Lib.hid (HBB.out.trans (hb.mono HBB.out.size))
    clear hb
    obtain ⟨kd0, kd1, kd2, kd3, kd4, kd5, kd6, kd7, kd8, kd9, kd10, kd11, kd12⟩ := (show MsgAt (w3.alloc (.cells #[.int .i64 0, .int .u64 0, .int .u64 0, .string ⟨#[]⟩, .int .i64 0, .int .i64 0, .int .i64 0, .int .i64 0, .int .i64 0, .int .i64 0, .int .i64 0, .int .u64 0, .int .u64 0] 24)) qd D from Hd.out.below (below_alloc _ _)).cells
    go_wp2_with fail
    clear kd0 kd1 kd2 kd3 kd4 kd5 kd6 kd7 kd8 kd9 kd10 kd11 kd12
    obtain ⟨u4, hu4⟩ : ∃ wx, wx = w3.alloc (.cells #[.int .i64 0, .int .u64 0, .int .u64 0, .string ⟨#[]⟩, .int .i64 0, .int .i64 0, .int .i64 0, .int .i64 0, .int .i64 0, .int .i64 0, .int .i64 0, .int .u64 0, .int .u64 0] 24) := ⟨_, rfl⟩
    obtain ⟨qe, hqe⟩ : ∃ q, q = w3.heap.size := ⟨_, rfl⟩
    have He : Hid (MsgAt u4 qe (zeroM 0)) := Lib.hid (by rw [hu4, hqe]; exact heap_alloc_new w3 _)
    have HNde : Hid (qd ≠ qe) := Lib.hid (by have := Hd.out.lt; omega)
    replace Hd := Lib.hid (Hd.out.below (show Below w3.heap.size w3 u4 by rw [hu4]; exact below_alloc _ _))
    have HQe : Hid (w.heap.size ≤ qe) := Lib.hid (by rw [hqe]; exact HBB.out.size)
    replace HBB := Lib.hid (HBB.out.trans ((show Below w3.heap.size w3 u4 by rw [hu4]; exact below_alloc _ _).mono HBB.out.size))
    rw [← hu4]
    clear hu4
    rw [← hqe]
    clear hqe
    refine (right_k D _ HD.out false HRF).mono ?_
    rintro e w5 ⟨rfl, hb⟩
    replace Hd := Lib.hid (Hd.out.below hb)
    replace He := Lib.hid (He.out.below hb)
    replace HBB := Lib.hid (HBB.out.trans (hb.mono HBB.out.size))
    clear hb
    go_wp2_with fail
    refine (fixed_any _).mono ?_
    rintro e w6 ⟨rfl, hb⟩
    replace Hd := Lib.hid (Hd.out.below hb)
    replace He := Lib.hid (He.out.below hb)
    replace HBB := Lib.hid (HBB.out.trans (hb.mono HBB.out.size))
    clear hb
    go_wp2_with fail
    go_ret
    exact ⟨rfl, HBB.out⟩

def dat (a b n c : Int) : Ms := ⟨fun j => match j with | 0 => 4 | 2 => a | 9 => c | 11 => b | 12 => n | _ => 0, ⟨#[]⟩⟩
theorem dat_norm (a b n c : Int) : Norm (dat a b n c) := fun j hj => by
  match j, hj with
  | 0, h => omega
  | 1, h => omega
  | 2, h => omega
  | 3, _ => rfl
  | 4, h => omega
  | 5, h => omega
  | 6, h => omega
  | 7, h => omega
  | 8, h => omega
  | 9, h => omega
  | 10, h => omega
  | 11, h => omega
  | 12, h => omega
  | n + 13, _ => rfl
theorem dat_right (a b n c : Int) (hb : 0 ≤ b) (hn : 0 ≤ n) : rightM (dat a b n c) = true ↔ 1 ≤ a ∧ a ≤ 4294967296 ∧ b ≤ 1000 ∧ n ≤ 255 ∧ 1 ≤ c ∧ c ≤ 1048576 := by
  rw [right4_iff _ rfl]
  have e1 : inIv 1 4294967296 ((dat a b n c).i 2) = true ↔ 1 ≤ a ∧ a ≤ 4294967296 := by simp [inIv, dat]
  have e2 : inIv 0 1000 ((dat a b n c).i 11) = true ↔ 0 ≤ b ∧ b ≤ 1000 := by simp [inIv, dat]
  have e3 : inIv 0 255 ((dat a b n c).i 12) = true ↔ 0 ≤ n ∧ n ≤ 255 := by simp [inIv, dat]
  have e4 : inIv 1 1048576 ((dat a b n c).i 9) = true ↔ 1 ≤ c ∧ c ≤ 1048576 := by simp [inIv, dat]
  rw [e1, e2, e3, e4]
  constructor
  · rintro ⟨⟨h1, h2⟩, ⟨h3, h4⟩, ⟨h5, h6⟩, ⟨h7, h8⟩, _⟩
    exact ⟨h1, h2, h4, h6, h7, h8⟩
  · rintro ⟨h1, h2, h3, h4, h5, h6⟩
    exact ⟨⟨h1, h2⟩, ⟨hb, h3⟩, ⟨hn, h4⟩, ⟨h5, h6⟩, rfl, rfl, rfl, rfl, rfl, rfl, rfl, rfl⟩
theorem dat_wf (a b n c : Int) (ha : (Lit.int .u64 a).wf = true) (hb : (Lit.int .u64 b).wf = true) (hn : (Lit.int .u64 n).wf = true) (hc : (Lit.int .i64 c).wf = true) : (dat a b n c).Wf := ⟨fun j hj => by
  simp only [nCell, Bool.and_eq_true, decide_eq_true_eq, Bool.not_eq_true', beq_eq_false_iff_ne, ne_eq] at hj
  match j, hj with
  | 0, _ => rfl
  | 1, _ => rfl
  | 2, _ => exact ha
  | 3, h => exact absurd rfl h.2
  | 4, _ => rfl
  | 5, _ => rfl
  | 6, _ => rfl
  | 7, _ => rfl
  | 8, _ => rfl
  | 9, _ => exact hc
  | 10, _ => rfl
  | 11, _ => exact hb
  | 12, _ => exact hn
  | n + 13, h => omega, (show (⟨#[]⟩ : ByteArray).size ≤ maxLen from by decide)⟩
theorem dat_first (a b n c : Int) (h : rightM (dat a b n c) = true) : (encM (dat a b n c)).extract 0 1 = ⟨#[4]⟩ := by
  apply list_ext
  have hl := enc_list h
  have e : put (u64 ((dat a b n c).i 0)) = [4] := put_small (n := 4) (by omega)
  rw [e] at hl
  simp [hl]

theorem walk (x0 x1 x2 : Int) (a1 : Int) (w : World) (h0 : (Lit.int .u64 x0).wf = true) (h1 : (Lit.int .u64 x1).wf = true) (h2 : (Lit.int .u64 x2).wf = true) (w1 : (Lit.int .i64 a1).wf = true) :
    Calls Try.prog 8 #[.agg #[.int .u64 x0, .int .u64 x1, .int .u64 x2], .int .i64 a1] w fun e w' => e = .returned (.bool true) ∧ Below w.heap.size w w' := by
  exact walkN x0 x1 x2 a1 (dat x0 x1 x2 a1) _ w (dat_wf x0 x1 x2 a1 h0 h1 h2 w1) (dat_norm _ _ _ _) rfl rfl (dat_right x0 x1 x2 a1 (bounds_u64 h1).1 (bounds_u64 h2).1) (dat_first x0 x1 x2 a1)

set_option maxRecDepth 100000 in
theorem lifted (os : Os) (started : os.Started) (H : Type) (enc : TypeId × Value → H) :
    ReturnsInHanded {} Try.checked os 8 .any (Rows.msgDataSpec.pre6 enc Try.prog Try.f8 Rows.msgDataRow.domain false) (Rows.msgDataSpec.post enc Try.prog Try.f8 false true false false) := by
  refine returnsInHanded_of_change (C := Try.checked) own started (by kernel_rfl) Try.func8
    (ChangeSpec.witness6 (enc := enc) (C := Try.checked) false ⟨#[], #[.agg #[.int .u64 0, .int .u64 0, .int .u64 0], .int .i64 0], []⟩ 8 (by kernel_rfl) (by kernel_rfl) (by kernel_rfl) (by kernel_rfl)) ?_
  intro W base args ds gs before hval0 hW hcnd _
  have hval : ∀ (j : Nat) t v, Try.f8.params[j]? = some t → args[j]? = some v → Value.okWide Try.prog W .any base t v := hval0
  have hW' := hW
  obtain ⟨p, q, hA0, hV, rfl, hfz, hnd⟩ := hW
  have hA : DataW.TrodAll enc Try.prog W 0 (fun _ => true) true Try.f8.params.toList args.toList ds p := hA0
  rw [Try.params8] at hA hval
  obtain ⟨v0, vs0, d0, ds0, p0, q0, hargs, rfl, rfl, h0, r0⟩ := trodAll_cons hA
  obtain ⟨v1, vs1, d1, ds1, p1, q1, rfl, rfl, rfl, h1, r1⟩ := trodAll_cons r0
  obtain ⟨rfl, rfl, rfl⟩ := trodAll_nil r1
  obtain rfl : args = #[v0, v1] := by cases args; simp_all
  obtain ⟨rfl, rfl⟩ := trodVars_none hV
  obtain ⟨cs0, rfl, hsz0⟩ : ∃ cs, v0 = .agg cs ∧ cs.size = Try.prog.cellsOf 50 := by
    have h := hval 0 50 v0 rfl rfl
    simp only [Value.okWide, Try.underlying50] at h
    obtain ⟨cs, e1, e2, _⟩ := h
    exact ⟨cs, e1, e2⟩
  have k0 := h0
  have lt0 : ∀ x ∈ p0, x.block < W.heap.size := by obtain ⟨m, hm⟩ := k0; exact DataW.trod_lt m _ _ _ hm
  obtain ⟨Z0, rfl, w0⟩ : ∃ Z : Nat → Int, cs0 = ((List.range 3).map fun j => Value.int .u64 (Z j)).toArray ∧ ∀ j, j < 3 → (Lit.int .u64 (Z j)).wf = true := by
    obtain ⟨fuel, hf⟩ := h0
    exact open_arrV Try.underlying50 Try.underlying22 (by kernel_rfl) (by kernel_rfl) hf
  obtain ⟨a1, rfl, rfl, rfl, w1⟩ := open_int Try.underlying3 (hval 1 3 v1 rfl rfl) h1
  clear hA0 hval0
  refine (walk (Z0 0) (Z0 1) (Z0 2) a1 W (w0 0 (by omega)) (w0 1 (by omega)) (w0 2 (by omega)) w1).mono fun e W' ⟨he, bel⟩ => ?_
  subst he
  exact ⟨_, rfl, _, _, _, [], _, [], hW', trodAll_mk1 (shut_bool Try.underlying4 _), (trodAll_cons_mk (Below.trod laidOut (by kernel_rfl) (of_decide_eq_true (by kernel_rfl)) k0 bel lt0) (trodAll_cons_mk (shut_int Try.underlying3 w1) trodAll_mk0)), rfl, bel.frame _, fun h => by cases h⟩

theorem over : Rows.msgDataRow.holds Try.pinned (OpenSpec.ofChange Rows.msgDataSpec) :=
  OpenClaim.holds_of_wide 8 Try.f8 rfl rfl rfl rfl rfl rfl rfl ⟨rfl, rfl, rfl, rfl, rfl⟩ rfl rfl rfl rfl rfl (by kernel_rfl) Try.func8 (by kernel_rfl)
    (of_decide_eq_true (by kernel_rfl)) (by unfold Func.isWrapper; first | (rw [if_pos (by decide +kernel)]; kernel_rfl) | (rw [if_neg (by decide +kernel)]; exact ⟨rfl, rfl⟩))
    (fun os started H enc _ => lifted os started H enc)

theorem proved : Rows.MsgDataSaid := over
#print axioms proved
end Go.Proofs.Ytifpahjlmnimnaa.msgData
