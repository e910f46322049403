/- The closure that hands out a message's fields; the program's Right. -/
import Derived.Test.YtifpahjlmnimnaaMsgF
import Derived.Test.YtifpahjlmnimnaaMsgE
namespace Go.Proofs.Ytifpahjlmnimnaa
open Go.RowKit
set_option linter.unusedVariables false
set_option linter.unusedSimpArgs false
set_option maxRecDepth 20000

/-- What the closure tells: a row of the fields of a kind, or nothing. -/
def Flds (B : Nat) (w : World) (q : Nat) (k : Int) (v : Value) : Prop := (v = .slice none 0 0 ∧ fds k = []) ∨
  ∃ b n, v = .slice (some ⟨b, 0, none⟩) n n ∧ n = (fds k).length ∧ 1 ≤ n ∧ B ≤ b ∧ w.heap[b]? = some (.cells (fdsV q k) 59 (0, 0))
theorem zeroF (w : World) : (zeroValue 54).run Try.prog w = .ok (.slice none 0 0) w := by kernel_rfl
theorem fields_get {W w : World} {q A : Nat} (h : FieldsAt W w q A) (k : Int) :
    Calls Try.prog 36 #[.int .i64 k, .pointer (some ⟨A, 0, none⟩)] w fun e w' => (∃ v, e = .returned v ∧ Flds W.heap.size w' q k v) ∧ w' = w := by
  obtain ⟨hb, hA, m, es, c, T, b1, b2, b3, b4, hbA, hm, hT, g1, g2, g3, g4, l1, l2, l3, l4, t1, t2, t3, t4, tn⟩ := h
  have hc := cell_at 0 hbA
  simp at hc
  have hl := run_look (P := Try.prog) Try.underlying87 Try.underlying3 (zeroF w) hm hT k
  have H : Hid ((lookT T k).getD (.slice none 0 0) = .slice none 0 0 ∧ fds k = [] ∨ ∃ b n, (lookT T k).getD (.slice none 0 0) = .slice (some ⟨b, 0, none⟩) n n ∧ n = (fds k).length ∧ 1 ≤ n ∧ W.heap.size ≤ b ∧ w.heap[b]? = some (.cells (fdsV q k) 59 (0, 0))) := by
    refine Lib.hid ?_
    rcases fds_cases k with rfl | rfl | rfl | rfl | ⟨h1, h2, h3, h4, h5⟩
    · exact .inr ⟨b1, 8, by rw [t1]; rfl, rfl, by decide, l1, g1⟩
    · exact .inr ⟨b2, 5, by rw [t2]; rfl, rfl, by decide, l2, g2⟩
    · exact .inr ⟨b3, 2, by rw [t3]; rfl, rfl, by decide, l3, g3⟩
    · exact .inr ⟨b4, 4, by rw [t4]; rfl, rfl, by decide, l4, g4⟩
    · exact .inl ⟨by rw [tn k h1 h2 h3 h4]; rfl, h5⟩
  generalize (lookT T k).getD (.slice none 0 0) = v at hl H
  clear tn t1 t2 t3 t4 l1 l2 l3 l4 g1 g2 g3 g4 hT hm hbA hb hA
  go_enter Try.func36, Try.ntmps36
  go_wp2
  go_ret
  exact ⟨⟨_, rfl, H.out⟩, rfl⟩
/-- A field of the row. -/
theorem fld_cell {w : World} {b q : Nat} {k : Int} {j : Nat} {f : Fd} {r : List Fd} (h : w.heap[b]? = some (.cells (fdsV q k) 59 (0, 0))) (hj : (fds k).drop j = f :: r) : w.cell? ⟨b, j, none⟩ = some (.iface f.ty (f.rcv q)) := by
  have hf : (fds k)[j]? = some f := by
    have : ((fds k).drop j)[0]? = some f := by rw [hj]; rfl
    simpa using this
  rw [cell_at j h]
  simp [fdsV, hf, Fd.v]
theorem drop_next {k : Int} {j : Nat} {f : Fd} {r : List Fd} (hj : (fds k).drop j = f :: r) : (fds k).drop (j + 1) = r ∧ j < (fds k).length ∧ f.Fit := by
  have h1 : (fds k).drop (j + 1) = ((fds k).drop j).drop 1 := by rw [List.drop_drop]
  refine ⟨by rw [h1, hj]; rfl, ?_, fds_fit (k := k) (List.mem_of_mem_drop (hj ▸ List.mem_cons_self))⟩
  rcases Nat.lt_or_ge j (fds k).length with q | q
  · exact q
  · rw [List.drop_eq_nil_of_le q] at hj; cases hj
theorem MsgAt.cells {w : World} {q : Nat} {N : Ms} (h : MsgAt w q N) : w.cell? ⟨q, 0, none⟩ = some (.int .i64 (N.i 0)) ∧ w.cell? ⟨q, 1, none⟩ = some (.int .u64 (N.i 1)) ∧ w.cell? ⟨q, 2, none⟩ = some (.int .u64 (N.i 2)) ∧ w.cell? ⟨q, 3, none⟩ = some (.string N.s) ∧ w.cell? ⟨q, 4, none⟩ = some (.int .i64 (N.i 4)) ∧ w.cell? ⟨q, 5, none⟩ = some (.int .i64 (N.i 5)) ∧ w.cell? ⟨q, 6, none⟩ = some (.int .i64 (N.i 6)) ∧ w.cell? ⟨q, 7, none⟩ = some (.int .i64 (N.i 7)) ∧ w.cell? ⟨q, 8, none⟩ = some (.int .i64 (N.i 8)) ∧ w.cell? ⟨q, 9, none⟩ = some (.int .i64 (N.i 9)) ∧ w.cell? ⟨q, 10, none⟩ = some (.int .i64 (N.i 10)) ∧ w.cell? ⟨q, 11, none⟩ = some (.int .u64 (N.i 11)) ∧ w.cell? ⟨q, 12, none⟩ = some (.int .u64 (N.i 12)) :=
  ⟨cell_at 0 h, cell_at 1 h, cell_at 2 h, cell_at 3 h, cell_at 4 h, cell_at 5 h, cell_at 6 h, cell_at 7 h, cell_at 8 h, cell_at 9 h, cell_at 10 h, cell_at 11 h, cell_at 12 h⟩
theorem eql_zero (N : Ms) (b : Bool) (hb : Hid (eqM N (zeroM (N.i 0)) = b)) : ∀ w, (binOp .eql 24 (.agg #[.int .i64 (N.i 0), .int .u64 (N.i 1), .int .u64 (N.i 2), .string N.s, .int .i64 (N.i 4), .int .i64 (N.i 5), .int .i64 (N.i 6), .int .i64 (N.i 7), .int .i64 (N.i 8), .int .i64 (N.i 9), .int .i64 (N.i 10), .int .u64 (N.i 11), .int .u64 (N.i 12)]) (.agg #[.int .i64 (N.i 0), .int .u64 0, .int .u64 0, .string ⟨#[]⟩, .int .i64 0, .int .i64 0, .int .i64 0, .int .i64 0, .int .i64 0, .int .i64 0, .int .i64 0, .int .u64 0, .int .u64 0])).run Try.prog w = .ok (.bool b) w := fun w => by
  have h := eqlP N (zeroM (N.i 0)) w
  rw [hb.out] at h
  exact h
theorem Chg.out {w w1 w2 : World} {B q : Nat} (h : Below B w w1) (hc : Chg (fun k => k = q) w1 w2) (hq : B ≤ q) (hB : B ≤ w1.heap.size) : Below B w w2 := h.trans (hc.below (fun k e => by rw [e]; exact hq) hB)

set_option maxHeartbeats 4000000 in
set_option maxRecDepth 100000 in
theorem right_k (M : Ms) (w : World) (hM : M.Wf) (b : Bool) (hb : Hid (rightM M = b)) :
    Calls Try.prog 12 #[M.v] w fun e w' => e = .returned (.bool b) ∧ Below w.heap.size w w' := by
  have HWF := Lib.hid hM
  clear hM
  obtain ⟨q, hq⟩ : ∃ q, q = w.heap.size := ⟨_, rfl⟩
  obtain ⟨wa, hwa⟩ : ∃ wa, wa = w.alloc (.cells M.cl 24) := ⟨_, rfl⟩
  have HM : Hid (MsgAt wa q M) := Lib.hid (by rw [hwa, hq]; exact heap_alloc_new w _)
  have HBA : Hid (Below w.heap.size w wa) := Lib.hid (by rw [hwa]; exact below_alloc _ _)
  have HQ := Lib.hid hq
  unfold Ms.v
  unfold Ms.cl at hwa ⊢
  go_enter Try.func12, Try.ntmps12
  go_wp2_with fail
  rw [← hwa, ← hq]
  clear hwa hq
  refine wp_region_held_drew (S := fun w => Below wa.heap.size wa w) (by kernel_rfl) (drewN_below2 (Nat.le_refl _) 1) (fun hHeld => ?_)
  refine wpAnyH_take (i := 1) (oi := ?o5) (v := ?v5) ?i5 (by kernel_rfl) (by kernel_rfl) (by kernel_rfl) ?q5 (Or.inl ⟨?w5, ?y5⟩) (by assumption) ?r5
  case' i5 => simp only [List.getElem?_toArray, List.getElem?_cons_succ, List.getElem?_cons_zero]
  case i5 => rfl
  case q5 => exact fun _ _ _ h => h
  case w5 => rfl
  case y5 => (intro w hSw; go_simp) <;> with_reducible rfl
  try simp only [Act.put, List.setIfInBounds_toArray, List.set_cons_zero, List.set_cons_succ]
  refine wpAnyH_take (i := 2) (oi := ?o6) (v := ?v6) ?i6 (by kernel_rfl) (by kernel_rfl) (by kernel_rfl) ?q6 (Or.inl ⟨?w6, ?y6⟩) (by assumption) ?r6
  case' i6 => simp only [List.getElem?_toArray, List.getElem?_cons_succ, List.getElem?_cons_zero]
  case i6 => rfl
  case q6 => exact fun _ _ _ h => h
  case w6 => rfl
  case y6 => (intro w hSw; have z0 := (HM.out.below hSw).of (j := 0) (k := .i64) ⟨by decide, rfl⟩; go_simp) <;> with_reducible rfl
  try simp only [Act.put, List.setIfInBounds_toArray, List.set_cons_zero, List.set_cons_succ]
  refine wpAnyH_ready (rs := [0]) (by kernel_rfl) (by simp) ?_
  refine AllReadyH.cons (o := ?o7) ?i7 (fun K' hK => ?_) AllReadyH.nil
  case' i7 => simp only [List.getElem?_toArray, List.getElem?_cons_succ, List.getElem?_cons_zero]
  case i7 => rfl
  go_simp
  go_at_call 22
  refine (fieldsIn_any q _).mono ?_
  rintro e w1 ⟨A, rfl, hF⟩
  have HF := Lib.hid hF
  have HB1 := Lib.hid (hHeld.trans (hF.1.mono hHeld.size))
  have HW1 := Lib.hid hHeld.size
  clear hF
  go_wp2_with fail
  refine hK.out _ _ HB1.out (fun hHeld => ?_)
  clear hK K'
  try simp only [Act.put, List.setIfInBounds_toArray, List.set_cons_zero, List.set_cons_succ]
  refine wpAnyH_ready (rs := [3]) (by kernel_rfl) (by simp) ?_
  refine AllReadyH.cons (o := ?o8) ?i8 (fun K' hK => ?_) AllReadyH.nil
  case' i8 => simp only [List.getElem?_toArray, List.getElem?_cons_succ, List.getElem?_cons_zero]
  case i8 => rfl
  go_simp
  go_at_call 36
  refine (fields_get HF.out _).mono ?_
  rintro e w2 ⟨⟨v, rfl, hV⟩, rfl⟩
  have HV := Lib.hid hV
  clear hV
  go_wp2_with fail
  refine hK.out _ _ HB1.out (fun hHeld => ?_)
  clear hK K'
  try simp only [Act.put, List.setIfInBounds_toArray, List.set_cons_zero, List.set_cons_succ]
  refine wpAnyH_take (i := 4) (oi := ?o9) (v := ?v9) ?i9 (by kernel_rfl) (by kernel_rfl) (by kernel_rfl) ?q9 (Or.inl ⟨?w9, ?y9⟩) (by assumption) ?r9
  case' i9 => simp only [List.getElem?_toArray, List.getElem?_cons_succ, List.getElem?_cons_zero]
  case i9 => rfl
  case q9 => exact fun _ _ _ h => h
  case w9 => rfl
  case y9 => (intro w hSw; go_simp) <;> with_reducible rfl
  try simp only [Act.put, List.setIfInBounds_toArray, List.set_cons_zero, List.set_cons_succ]
  refine wpAnyH_done (by kernel_rfl) ?_ _
  clear hHeld
  have HM2 : Hid (MsgAt w2 q M) := Lib.hid (HM.out.below HB1.out)
  have HB2 : Hid (Below w.heap.size w w2) := Lib.hid (HBA.out.trans (HB1.out.mono HBA.out.size))
  have HqB : Hid (q < wa.drew.heap.size) := Lib.hid (Nat.lt_of_lt_of_le HM.out.lt HW1.out)
  have HQ2 : Hid (w.heap.size ≤ w2.heap.size) := Lib.hid HB2.out.size
  have HK2 : Hid (q ≠ 0 ∨ q = 0) := Lib.hid (by omega)
  clear HF HB1 HBA HM HW1
  generalize wa.drew.heap.size = B at HV HqB
  rcases HV.out with ⟨rfl, hfn⟩ | ⟨x, n, rfl, hn, hn1, hx, hrow⟩
  · have HE : Hid (false = b) := Lib.hid (by rw [← hb.out, right_nofds hfn])
    clear hfn HV
    go_wp2_with fail
    go_ret
    exact ⟨retB HE.out, HB2.out⟩
  · have hn0 : ((n : Int) == 0) = false := by simp; omega
    have hnm : n ≤ 8 := by rw [hn]; exact fds_len _
    have HN := Lib.hid hn
    have HR : Hid (w2.heap[x]? = some (.cells (fdsV q (M.i 0)) 59 (0, 0))) := Lib.hid hrow
    have HX : Hid (x ≠ q) := Lib.hid (by have := HqB.out; omega)
    have HG : Hid (rightM M = (match goR (fds (M.i 0)) M with | none => false | some M' => eqM M' (zeroM (M'.i 0)))) := Lib.hid (right_go (fun e => by rw [e] at hn; simp at hn; omega))
    generalize hk : M.i 0 = k at HR HN HG
    have HKD := Lib.hid hk
    clear HV hn hx hrow hn1 HqB
    go_wp2_with fail
    go_loopw [5, 15] (fun _ i wr => ∃ (j : Nat) (N : Ms), j ≤ n ∧ i = .int .i64 j ∧ Hid (MsgAt wr q N) ∧ Hid N.Wf ∧ Hid (goR ((fds k).drop j) N = goR (fds k) M) ∧ Hid (Chg (fun t => t = q) w2 wr)) (fun _ i _ => n - (intOf i).toNat)
    case atStart => exact ⟨0, M, Nat.zero_le _, rfl, HM2, HWF, Lib.hid (by rw [List.drop_zero]), Lib.hid (Chg.of_below (Below.refl _ _))⟩
    case round =>
      obtain ⟨j, N, hj, rfl, HM3, HW3, HGO, HC⟩ := hrel
      clear HM2 HWF
      cases hd : (fds k).drop j with
      | nil =>
        have hjn : j = n := by
          have := List.drop_eq_nil_iff.1 hd
          rw [← HN.out] at this; omega
        subst hjn
        have HE : Hid (eqM N (zeroM (N.i 0)) = b) := Lib.hid (by
          have h1 := HGO.out
          rw [hd] at h1
          rw [← hb.out, HG.out, ← h1]; rfl)
        have hE := eql_zero N b HE
        have hgd := guardP
        obtain ⟨k0, k1, k2, k3, k4, k5, k6, k7, k8, k9, k10, k11, k12⟩ := HM3.out.cells
        clear hd HGO HM3 HE
        go_wp2
        go_ret
        exact ⟨rfl, Chg.out HB2.out HC.out (by have := HQ.out; omega) HQ2.out⟩
      | cons f r =>
        obtain ⟨hd2, hlt, hfit⟩ := drop_next hd
        rw [← HN.out] at hlt
        have hjlt : (j : Int) < (n : Int) := by omega
        have hcell := fld_cell (w := wr) (HC.out.blk HR.out HX.out) hd
        have hinv := meth_right f q
        have hinv2 := meth_empty f q
        have hinv3 := call_right f q
        have hinv4 := call_empty f q
        have HFT := Lib.hid hfit
        have HD2 := Lib.hid hd2
        have HGO2 : Hid (goR (fds k) M = if f.ok N = true then goR r (f.emp N) else none) := Lib.hid (by rw [← HGO.out, hd]; rfl)
        clear hd hd2 hfit HGO
        go_wp2_with fail
        cases hok : f.ok N with
        | false =>
          refine (Fd.right_c f HFT.out HM3.out HW3.out false (Lib.hid hok)).mono ?_
          rintro e w4 ⟨rfl, hb4⟩
          have HB4 := Lib.hid hb4
          have HE : Hid (false = b) := Lib.hid (by rw [← hb.out, HG.out, HGO2.out, hok]; rfl)
          clear hb4 hcell hok
          go_wp2_with fail
          go_ret
          exact ⟨retB HE.out, Chg.out HB2.out (HC.out.trans (Chg.of_below HB4.out)) (by have := HQ.out; omega) HQ2.out⟩
        | true =>
          refine (Fd.right_c f HFT.out HM3.out HW3.out true (Lib.hid hok)).mono ?_
          rintro e w4 ⟨rfl, hb4⟩
          have HM4 := Lib.hid (HM3.out.below hb4)
          have HC4 := Lib.hid (HC.out.trans (Chg.of_below hb4))
          have HGO3 : Hid (goR ((fds k).drop (j + 1)) (f.emp N) = goR (fds k) M) := Lib.hid (by rw [HD2.out, HGO2.out, hok]; rfl)
          clear hb4 hcell hok HM3 HC HGO2
          go_wp2_with fail
          refine (Fd.empty_c f HFT.out HM4.out).mono ?_
          rintro e w5 ⟨rfl, hc5, hm5⟩
          have HM5 := Lib.hid hm5
          have HC5 := Lib.hid (HC4.out.trans hc5)
          have HW5 := Lib.hid (f.emp_wf HW3.out)
          clear hc5 hm5 HM4 HC4
          go_wp2_with fail
          go_roundw
          case rel => exact ⟨j + 1, f.emp N, by omega, by go_num, HM5, HW5, HGO3, HC5⟩
          case measure => simp [intOf]; omega
end Go.Proofs.Ytifpahjlmnimnaa
