/- The program's Encode. -/
import Derived.Test.YtifpahjlmnimnaaMsgC
namespace Go.Proofs.Ytifpahjlmnimnaa
open Go.RowKit
set_option linter.unusedVariables false
set_option linter.unusedSimpArgs false
set_option maxRecDepth 20000

theorem right_offer {M : Ms} (h : rightM M = true) : M.s.size ≤ 8 := by
  have ver : ∀ s : ByteArray, rightB s.data.toList = true → s.size ≤ 8 := fun s h => by
    have := (right_iff.1 h).2.1
    simpa using this
  by_cases h1 : M.i 0 = 1
  · have hr := h
    unfold rightM at hr
    rw [h1] at hr
    have hg : fds 1 = [.ses 1 1 4294967296, .ver, .int 4 0 1, .nam 6, .nam 7, .nam 8, .nam 9, .nam 10] := rfl
    rw [hg] at hr
    dsimp only at hr
    unfold goR at hr
    by_cases h2 : (Fd.ses 1 1 4294967296).ok M = true
    · rw [if_pos h2] at hr
      unfold goR at hr
      by_cases h3 : Fd.ver.ok ((Fd.ses 1 1 4294967296).emp M) = true
      · exact ver _ h3
      · rw [if_neg h3] at hr; cases hr
    · rw [if_neg h2] at hr; cases hr
  · -- another kind: it is empty at the end, and no field of it is the offer
    have key : ∀ (l : List Fd), (∀ f, f ∈ l → f ≠ .ver) → ∀ N N', goR l N = some N' → N'.s = N.s := by
      intro l
      induction l with
      | nil => intro _ N N' e; simp [goR] at e; rw [e]
      | cons f r ih =>
        intro hn N N' e
        unfold goR at e
        by_cases hk : f.ok N = true
        · rw [if_pos hk] at e
          rw [ih (fun g hg => hn g (List.mem_cons_of_mem _ hg)) _ _ e]
          cases f with
          | ver => exact absurd rfl (hn _ List.mem_cons_self)
          | _ => rfl
        · rw [if_neg hk] at e; cases e
    have hne : ∀ f, f ∈ fds (M.i 0) → f ≠ .ver := by
      intro f hf e
      subst e
      rcases fds_cases (M.i 0) with e | e | e | e | ⟨_, _, _, _, e⟩
      · exact h1 e
      all_goals (rw [e] at hf; simp [fds] at hf)
    have hfn : fds (M.i 0) ≠ [] := fun e => by rw [right_nofds e] at h; cases h
    rw [right_go hfn] at h
    cases hg : goR (fds (M.i 0)) M with
    | none => rw [hg] at h; cases h
    | some N' =>
      rw [hg] at h
      have h2 := (eqM_iff _ _).1 h
      have h3 := key _ hne _ _ hg
      have h4 : N'.cl[3]? = (zeroM (N'.i 0)).cl[3]? := by rw [h2]
      rw [Ms.cl_s, Ms.cl_s] at h4
      injection h4 with h4
      injection h4 with h4
      rw [← h3, h4]
      exact Nat.zero_le _
theorem right_kind {M : Ms} (h : rightM M = true) : 1 ≤ M.i 0 ∧ M.i 0 ≤ 4 ∧ fds (M.i 0) ≠ [] := by
  rcases fds_cases (M.i 0) with e | e | e | e | ⟨_, _, _, _, e⟩
  · rw [e]; exact ⟨by omega, by omega, by simp [fds]⟩
  · rw [e]; exact ⟨by omega, by omega, by simp [fds]⟩
  · rw [e]; exact ⟨by omega, by omega, by simp [fds]⟩
  · rw [e]; exact ⟨by omega, by omega, by simp [fds]⟩
  · rw [right_nofds e] at h; cases h
theorem by_size (f : Fd) {M : Ms} (h : M.s.size ≤ 8) : (f.by M).size ≤ 20 := by
  cases f with
  | ver =>
    have := putS_size M.s.size (by omega)
    simp only [Fd.by, ptS, ByteArray.size_append]; omega
  | int j lo hi => have := putS_size _ (wrap_u (M.i j)).2; simp only [Fd.by]; omega
  | ses j lo hi => have := putS_size _ (wrap_u (M.i j)).2; simp only [Fd.by]; omega
  | nam j => have := putS_size _ (wrap_u (M.i j)).2; simp only [Fd.by]; omega
set_option maxHeartbeats 4000000 in
set_option maxRecDepth 100000 in
theorem enc_none (M : Ms) (w : World) (hM : M.Wf) (hr : Hid (rightM M = false)) :
    Calls Try.prog 15 #[M.v] w fun e w' => e = .returned (.string ⟨#[]⟩) ∧ Below w.heap.size w w' := by
  have HWF := Lib.hid hM
  clear hM
  obtain ⟨q, hq⟩ : ∃ q, q = w.heap.size := ⟨_, rfl⟩
  obtain ⟨wa, hwa⟩ : ∃ wa, wa = w.alloc (.cells M.cl 24) := ⟨_, rfl⟩
  have HM : Hid (MsgAt wa q M) := Lib.hid (by rw [hwa, hq]; exact heap_alloc_new w _)
  have HBA : Hid (Below w.heap.size w wa) := Lib.hid (by rw [hwa]; exact below_alloc _ _)
  have HRK := Lib.hid (fun u => right_k M u HWF.out false hr)
  unfold Ms.v at HRK ⊢
  unfold Ms.cl at hwa HRK ⊢
  go_enter Try.func15, Try.ntmps15
  obtain ⟨k0, k1, k2, k3, k4, k5, k6, k7, k8, k9, k10, k11, k12⟩ := HM.out.cells
  rw [hq] at k0 k1 k2 k3 k4 k5 k6 k7 k8 k9 k10 k11 k12
  rw [hwa] at k0 k1 k2 k3 k4 k5 k6 k7 k8 k9 k10 k11 k12
  go_wp2_with fail
  rw [← hwa]
  clear k0 k1 k2 k3 k4 k5 k6 k7 k8 k9 k10 k11 k12
  refine (HRK.out _).mono ?_
  rintro e w1 ⟨rfl, hb1⟩
  have HB1 := Lib.hid (HBA.out.trans (hb1.mono HBA.out.size))
  clear hb1 HRK
  go_wp2_with fail
  go_ret
  exact ⟨rfl, HB1.out⟩
set_option maxHeartbeats 4000000 in
set_option maxRecDepth 100000 in
theorem enc_some (M : Ms) (w : World) (hM : M.Wf) (hr : Hid (rightM M = true)) (t : ByteArray) (ht : Hid (encL (fds (M.i 0)) M (putS (u64 (M.i 0))) = t)) :
    Calls Try.prog 15 #[M.v] w fun e w' => e = .returned (.string t) ∧ Below w.heap.size w w' := by
  have HWF := Lib.hid hM
  have HS := Lib.hid (right_offer hr.out)
  have HRT := Lib.hid (right_kind hr.out)
  clear hM
  obtain ⟨q, hq⟩ : ∃ q, q = w.heap.size := ⟨_, rfl⟩
  obtain ⟨w0, hwa⟩ : ∃ wa, wa = w.alloc (.cells M.cl 24) := ⟨_, rfl⟩
  have HM0 : Hid (MsgAt w0 q M) := Lib.hid (by rw [hwa, hq]; exact heap_alloc_new w _)
  have HBA0 : Hid (Below w.heap.size w w0) := Lib.hid (by rw [hwa]; exact below_alloc _ _)
  have HRK := Lib.hid (fun u => right_k M u HWF.out true hr)
  have HPU := Lib.hid (fun u => put_any (u64 (M.i 0)) u (wrap_u _).2)
  have hwr := (wrap_u (M.i 0)).1
  unfold Ms.v at HRK ⊢
  unfold Ms.cl at hwa HRK ⊢
  go_enter Try.func15, Try.ntmps15
  obtain ⟨k0, k1, k2, k3, k4, k5, k6, k7, k8, k9, k10, k11, k12⟩ := HM0.out.cells
  rw [hq] at k0 k1 k2 k3 k4 k5 k6 k7 k8 k9 k10 k11 k12
  rw [hwa] at k0 k1 k2 k3 k4 k5 k6 k7 k8 k9 k10 k11 k12
  go_wp2_with fail
  rw [← hwa, ← hq]
  clear k0 k1 k2 k3 k4 k5 k6 k7 k8 k9 k10 k11 k12 hwa
  refine (HRK.out _).mono ?_
  rintro e wa ⟨rfl, hb1⟩
  have HM1 := Lib.hid (HM0.out.below hb1)
  have HB1 := Lib.hid (HBA0.out.trans (hb1.mono HBA0.out.size))
  clear hb1 HRK HM0 HBA0 hq
  have z0 := HM1.out.of (j := 0) (k := .i64) ⟨by decide, rfl⟩
  go_wp2_with fail
  refine (HPU.out _).mono ?_
  rintro e wa ⟨rfl, hb1⟩
  have HM := Lib.hid (HM1.out.below hb1)
  have HBA := Lib.hid (HB1.out.trans (hb1.mono HB1.out.size))
  clear hb1 HPU HM1 HB1 z0 hwr
  go_wp2_with fail
  refine wp_region_held_drew (S := fun w => Below wa.heap.size wa w) (by kernel_rfl) (drewN_below2 (Nat.le_refl _) 1) (fun hHeld => ?_)
  refine wpAnyH_take (i := 1) (oi := ?o10) (v := ?v10) ?i10 (by kernel_rfl) (by kernel_rfl) (by kernel_rfl) ?q10 (Or.inl ⟨?w10, ?y10⟩) (by assumption) ?r10
  case' i10 => simp only [List.getElem?_toArray, List.getElem?_cons_succ, List.getElem?_cons_zero]
  case i10 => rfl
  case q10 => exact fun _ _ _ h => h
  case w10 => rfl
  case y10 => (intro w hSw; go_simp) <;> with_reducible rfl
  try simp only [Act.put, List.setIfInBounds_toArray, List.set_cons_zero, List.set_cons_succ]
  refine wpAnyH_take (i := 2) (oi := ?o11) (v := ?v11) ?i11 (by kernel_rfl) (by kernel_rfl) (by kernel_rfl) ?q11 (Or.inl ⟨?w11, ?y11⟩) (by assumption) ?r11
  case' i11 => simp only [List.getElem?_toArray, List.getElem?_cons_succ, List.getElem?_cons_zero]
  case i11 => rfl
  case q11 => exact fun _ _ _ h => h
  case w11 => rfl
  case y11 => (intro w hSw; have z0 := (HM.out.below hSw).of (j := 0) (k := .i64) ⟨by decide, rfl⟩; go_simp) <;> with_reducible rfl
  try simp only [Act.put, List.setIfInBounds_toArray, List.set_cons_zero, List.set_cons_succ]
  refine wpAnyH_take (i := 5) (oi := ?o12) (v := ?v12) ?i12 (by kernel_rfl) (by kernel_rfl) (by kernel_rfl) ?q12 (Or.inl ⟨?w12, ?y12⟩) (by assumption) ?r12
  case' i12 => simp only [List.getElem?_toArray, List.getElem?_cons_succ, List.getElem?_cons_zero]
  case i12 => rfl
  case q12 => exact fun _ _ _ h => h
  case w12 => rfl
  case y12 => (intro w hSw; go_simp) <;> with_reducible rfl
  try simp only [Act.put, List.setIfInBounds_toArray, List.set_cons_zero, List.set_cons_succ]
  refine wpAnyH_ready (rs := [0]) (by kernel_rfl) (by simp) ?_
  refine AllReadyH.cons (o := ?o13) ?i13 (fun K' hK => ?_) AllReadyH.nil
  case' i13 => simp only [List.getElem?_toArray, List.getElem?_cons_succ, List.getElem?_cons_zero]
  case i13 => rfl
  go_simp
  go_at_call 22
  refine (fieldsIn_any q _).mono ?_
  rintro e w1 ⟨A, rfl, hF⟩
  have HF := Lib.hid hF
  have HB1 := Lib.hid (hHeld.trans (hF.1.mono hHeld.size))
  have HW1 := Lib.hid hHeld.size
  clear hF
  go_wp2_with fail
  refine hK.out _ _ HB1.out (fun hHeld => ?_)
  clear hK K'
  try simp only [Act.put, List.setIfInBounds_toArray, List.set_cons_zero, List.set_cons_succ]
  refine wpAnyH_ready (rs := [3]) (by kernel_rfl) (by simp) ?_
  refine AllReadyH.cons (o := ?o14) ?i14 (fun K' hK => ?_) AllReadyH.nil
  case' i14 => simp only [List.getElem?_toArray, List.getElem?_cons_succ, List.getElem?_cons_zero]
  case i14 => rfl
  go_simp
  go_at_call 36
  refine (fields_get HF.out _).mono ?_
  rintro e w2 ⟨⟨v, rfl, hV⟩, rfl⟩
  have HV := Lib.hid hV
  clear hV
  go_wp2_with fail
  refine hK.out _ _ HB1.out (fun hHeld => ?_)
  clear hK K'
  try simp only [Act.put, List.setIfInBounds_toArray, List.set_cons_zero, List.set_cons_succ]
  rcases HV.out with ⟨rfl, hfn⟩ | ⟨x, n, rfl, hn, hn1, hx, hrow⟩
  · exact absurd hfn HRT.out.2.2
  have hnm : n ≤ 8 := by rw [hn]; exact fds_len _
  have HN := Lib.hid hn
  clear hn
  refine wpAnyH_take (i := 4) (oi := ?o15) (v := ?v15) ?i15 (by kernel_rfl) (by kernel_rfl) (by kernel_rfl) ?q15 (Or.inl ⟨?w15, ?y15⟩) (by assumption) ?r15
  case' i15 => simp only [List.getElem?_toArray, List.getElem?_cons_succ, List.getElem?_cons_zero]
  case i15 => rfl
  case q15 => exact fun _ _ _ h => h
  case w15 => rfl
  case y15 => (intro w hSw; go_simp) <;> with_reducible rfl
  try simp only [Act.put, List.setIfInBounds_toArray, List.set_cons_zero, List.set_cons_succ]
  refine wpAnyH_done (by kernel_rfl) ?_ _
  clear hHeld
  have HM2 : Hid (MsgAt w2 q M) := Lib.hid (HM.out.below HB1.out)
  have HB2 : Hid (Below w.heap.size w w2) := Lib.hid (HBA.out.trans (HB1.out.mono HBA.out.size))
  have HR : Hid (w2.heap[x]? = some (.cells (fdsV q (M.i 0)) 59 (0, 0))) := Lib.hid hrow
  have HPS : Hid ((putS (u64 (M.i 0))).size ≤ 10) := Lib.hid (putS_size _ (wrap_u _).2)
  clear HV HF HB1 HBA HM HW1 hrow hx hn1 HRT
  generalize hk : M.i 0 = k at HR HN ht HPS
  have HKD := Lib.hid hk
  generalize putS (u64 k) = a0 at ht HPS
  clear hk
  go_wp2_with fail
  go_loopw [3, 5, 18] (fun s _ i wr => ∃ (j : Nat) (a : ByteArray), j ≤ n ∧ i = .int .i64 j ∧ s = .string a ∧ Hid (a.size ≤ 10 + 20 * j) ∧ Hid (encL ((fds k).drop j) M a = t) ∧ Hid (Below w2.heap.size w2 wr)) (fun _ _ i _ => n - (intOf i).toNat)
  case atStart => exact ⟨0, a0, Nat.zero_le _, rfl, rfl, HPS, Lib.hid (by rw [List.drop_zero]; exact ht.out), Lib.hid (Below.refl _ _)⟩
  case round =>
    obtain ⟨j, a, hj, rfl, rfl, HA, HE, HC⟩ := hrel
    cases hd : (fds k).drop j with
    | nil =>
      have hjn : j = n := by
        have := List.drop_eq_nil_iff.1 hd
        rw [← HN.out] at this; omega
      subst hjn
      have HT : Hid (a = t) := Lib.hid (by have h1 := HE.out; rw [hd] at h1; exact h1)
      clear hd HE HA
      go_wp2
      go_ret
      exact ⟨retS HT.out, HB2.out.trans (HC.out.mono HB2.out.size)⟩
    | cons f r =>
      obtain ⟨hd2, hlt, hfit⟩ := drop_next hd
      rw [← HN.out] at hlt
      have hjlt : (j : Int) < (n : Int) := by omega
      have hcell := fld_cell (w := wr) ((HC.out.block _ (blk_lt HR.out)).trans HR.out) hd
      have hinv := meth_bytes f q
      have hinv2 := call_bytes f q
      have HFT := Lib.hid hfit
      have HE2 : Hid (encL ((fds k).drop (j + 1)) M (a ++ f.by M) = t) := Lib.hid (by have h1 := HE.out; rw [hd] at h1; rw [hd2]; exact h1)
      have HM3 := Lib.hid (HM2.out.below HC.out)
      have HBS := Lib.hid (by_size f HS.out)
      clear hd hd2 hfit HE
      go_wp2_with fail
      refine (Fd.bytes_c f HFT.out HM3.out HWF.out (by have := HS.out; omega)).mono ?_
      rintro e w4 ⟨rfl, hb4⟩
      have HC4 := Lib.hid (HC.out.trans (hb4.mono HC.out.size))
      clear hb4 hcell HM3 hinv hinv2 HC
      generalize f.by M = g at HE2 HBS ⊢
      have hga : a.size + g.size ≤ 1000 := by have := HA.out; have := HBS.out; omega
      go_wp2_with fail
      go_roundw
      case rel => exact ⟨j + 1, a ++ g, by omega, by go_num, rfl, Lib.hid (by have := HA.out; have := HBS.out; rw [ByteArray.size_append]; omega), HE2, HC4⟩
      case measure => simp [intOf]; omega
end Go.Proofs.Ytifpahjlmnimnaa
