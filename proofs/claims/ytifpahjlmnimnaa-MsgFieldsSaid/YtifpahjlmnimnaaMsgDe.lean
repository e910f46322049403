/- The document's Encode. -/
import Derived.Test.YtifpahjlmnimnaaMsgDn
import Derived.Test.YtifpahjlmnimnaaMsgCe
namespace Go.Proofs.Ytifpahjlmnimnaa
open Go.RowKit
set_option linter.unusedVariables false
set_option linter.unusedSimpArgs false
set_option maxRecDepth 20000

theorem put_u (x : Int) (w : World) (hx : (Lit.int .u64 x).wf = true) (t : ByteArray) (ht : Hid (putS (u64 x) = t)) :
    Calls Try.prog 31 #[.int .u64 x] w fun e w' => e = .returned (.string t) ∧ Below w.heap.size w w' := by
  have h := wf_u64.1 hx
  have h1 := rput_any (u64 x) w (wrap_u x).2
  rw [u64_pos h.1 h.2, ht.out] at h1
  exact h1
theorem nam_enc (l : List Nat) (M : Ms) : ∀ s, encL (l.map Fd.nam) M s = numS (l.map M.i) s := by
  induction l with
  | nil => intro s; rfl
  | cons j r ih => intro s; exact ih _
theorem emp_app (a : ByteArray) : a ++ (⟨#[]⟩ : ByteArray) = a := by
  apply text_ext; simp
theorem num_end (l : List Int) (a : ByteArray) : a ++ numS l ⟨#[]⟩ = numS l a := by
  rw [← numS_app, emp_app]
theorem app_emp (a : ByteArray) : (⟨#[]⟩ : ByteArray) ++ a = a := by
  apply text_ext; simp
set_option maxHeartbeats 8000000 in
set_option maxRecDepth 100000 in
theorem renc_3 (M : Ms) (w : World) (hM : M.Wf) (hk : Hid (M.i 0 = 3)) (hr : Hid (rightM M = true)) (t : ByteArray) (ht : Hid (encL (fds 3) M (putS (u64 3)) = t)) :
    Calls Try.prog 16 #[M.v] w fun e w' => e = .returned (.string t) ∧ Below w.heap.size w w' := by
  have HWF := Lib.hid hM
  have HS := Lib.hid (right_offer hr.out)
  clear hM
  obtain ⟨q, hq⟩ : ∃ q, q = w.heap.size := ⟨_, rfl⟩
  obtain ⟨w0, hwa⟩ : ∃ wa, wa = w.alloc (.cells M.cl 29) := ⟨_, rfl⟩
  have HM : Hid (RAt w0 q M) := Lib.hid (by rw [hwa, hq]; exact heap_alloc_new w _)
  have HBB : Hid (Below w.heap.size w w0) := Lib.hid (by rw [hwa]; exact below_alloc _ _)
  have HRK := Lib.hid (fun u => rright_k M u HWF.out true hr)
  have HNK := Lib.hid (fun u : World => numbers_k (some ⟨u.heap.size, 0, none⟩) 1 1 [3] (u.alloc (.cells #[.int .i64 3] 3)) rfl (lit_row .i64 3 u [3] (by unfold maxLen; simp)) (by omega) (putS (u64 3)) (Lib.hid (app_emp _)))
  have HP0 := Lib.hid (putS_size (u64 3) (wrap_u _).2)
  obtain ⟨p2, hp2⟩ : ∃ t, putS (u64 (M.i 2)) = t := ⟨_, rfl⟩
  have HP2 := Lib.hid (show p2.size ≤ 10 by rw [← hp2]; exact putS_size (u64 (M.i 2)) (wrap_u _).2)
  have HQ2 := Lib.hid hp2
  clear hp2
  obtain ⟨p0, hp0⟩ : ∃ t, putS (u64 3) = t := ⟨_, rfl⟩
  rw [hp0] at HNK HP0 ht
  clear hp0
  obtain ⟨pz, hpz⟩ : ∃ t, numS [M.i 5] ⟨#[]⟩ = t := ⟨_, rfl⟩
  have HZS : Hid (pz.size ≤ 10 * 1) := Lib.hid (by rw [← hpz]; exact num_len _ _)
  have HZ := Lib.hid hpz
  clear hpz
  have HNZ := Lib.hid (fun u : World => numbers_k (some ⟨u.heap.size, 0, none⟩) 1 1 [M.i 5] (u.alloc (.cells #[.int .i64 (M.i 5)] 3)) rfl (lit_row .i64 3 u [M.i 5] (by unfold maxLen; simp)) (by omega) pz HZ)
  unfold Ms.v at HRK ⊢
  unfold Ms.cl at hwa HRK ⊢
  rw [hk.out] at HRK hwa ⊢
  go_enter Try.func16, Try.ntmps16
  obtain ⟨k0, k1, k2, k3, k4, k5, k6, k7, k8, k9, k10, k11, k12⟩ := HM.out.cells
  rw [hk.out] at k0
  rw [hq] at k0 k1 k2 k3 k4 k5 k6 k7 k8 k9 k10 k11 k12
  rw [hwa] at k0 k1 k2 k3 k4 k5 k6 k7 k8 k9 k10 k11 k12
  go_wp2_with fail
  rw [← hwa, ← hq]
  clear k0 k1 k2 k3 k4 k5 k6 k7 k8 k9 k10 k11 k12 hwa hq
  refine (HRK.out _).mono ?_
  rintro e wn0 ⟨rfl, hbn⟩
  replace HBB := Lib.hid (HBB.out.trans (hbn.mono HBB.out.size))
  replace HM := Lib.hid (HM.out.below hbn)
  clear hbn
  obtain ⟨k0, k1, k2, k3, k4, k5, k6, k7, k8, k9, k10, k11, k12⟩ := HM.out.cells
  rw [hk.out] at k0
  clear HRK
  go_wp2_with fail
  refine (HNK.out _).mono ?_
  rintro e wn1 ⟨rfl, hbn⟩
  replace hbn := (below_alloc _ _).trans (hbn.mono (below_alloc _ _).size)
  replace HBB := Lib.hid (HBB.out.trans (hbn.mono HBB.out.size))
  replace HM := Lib.hid (HM.out.below hbn)
  clear hbn k0 k1 k2 k3 k4 k5 k6 k7 k8 k9 k10 k11 k12
  obtain ⟨k0, k1, k2, k3, k4, k5, k6, k7, k8, k9, k10, k11, k12⟩ := HM.out.cells
  rw [hk.out] at k0
  clear HNK
  have hsz2 : (p0).size + p2.size ≤ 1000 := by have := HP0.out; have := HP2.out; omega
  go_wp2_with fail
  refine (put_u (M.i 2) _ (HWF.out.n 2 rfl) p2 HQ2).mono ?_
  rintro e wn2 ⟨rfl, hbn⟩
  replace HBB := Lib.hid (HBB.out.trans (hbn.mono HBB.out.size))
  replace HM := Lib.hid (HM.out.below hbn)
  clear hbn k0 k1 k2 k3 k4 k5 k6 k7 k8 k9 k10 k11 k12
  obtain ⟨k0, k1, k2, k3, k4, k5, k6, k7, k8, k9, k10, k11, k12⟩ := HM.out.cells
  rw [hk.out] at k0
  go_wp2_with fail
  have hszz : (p0 ++ p2).size + pz.size ≤ 1000 := by have := HP0.out; have := HP2.out; have := HZS.out; simp only [ByteArray.size_append]; omega
  have HE : Hid (p0 ++ p2 ++ pz = t) := Lib.hid (by rw [← ht.out, ← HZ.out, num_end, ← HQ2.out]; rfl)
  refine (HNZ.out _).mono ?_
  rintro e wz ⟨rfl, hbn⟩
  replace hbn := (below_alloc _ _).trans (hbn.mono (below_alloc _ _).size)
  replace HBB := Lib.hid (HBB.out.trans (hbn.mono HBB.out.size))
  clear hbn k0 k1 k2 k3 k4 k5 k6 k7 k8 k9 k10 k11 k12 HNZ
  go_wp2_with fail
  go_ret
  exact ⟨retS HE.out, HBB.out⟩
set_option maxHeartbeats 8000000 in
set_option maxRecDepth 100000 in
theorem renc_2 (M : Ms) (w : World) (hM : M.Wf) (hk : Hid (M.i 0 = 2)) (hr : Hid (rightM M = true)) (t : ByteArray) (ht : Hid (encL (fds 2) M (putS (u64 2)) = t)) :
    Calls Try.prog 16 #[M.v] w fun e w' => e = .returned (.string t) ∧ Below w.heap.size w w' := by
  have HWF := Lib.hid hM
  have HS := Lib.hid (right_offer hr.out)
  clear hM
  obtain ⟨q, hq⟩ : ∃ q, q = w.heap.size := ⟨_, rfl⟩
  obtain ⟨w0, hwa⟩ : ∃ wa, wa = w.alloc (.cells M.cl 29) := ⟨_, rfl⟩
  have HM : Hid (RAt w0 q M) := Lib.hid (by rw [hwa, hq]; exact heap_alloc_new w _)
  have HBB : Hid (Below w.heap.size w w0) := Lib.hid (by rw [hwa]; exact below_alloc _ _)
  have HRK := Lib.hid (fun u => rright_k M u HWF.out true hr)
  have HNK := Lib.hid (fun u : World => numbers_k (some ⟨u.heap.size, 0, none⟩) 1 1 [2] (u.alloc (.cells #[.int .i64 2] 3)) rfl (lit_row .i64 3 u [2] (by unfold maxLen; simp)) (by omega) (putS (u64 2)) (Lib.hid (app_emp _)))
  have HP0 := Lib.hid (putS_size (u64 2) (wrap_u _).2)
  obtain ⟨p1, hp1⟩ : ∃ t, putS (u64 (M.i 1)) = t := ⟨_, rfl⟩
  have HP1 := Lib.hid (show p1.size ≤ 10 by rw [← hp1]; exact putS_size (u64 (M.i 1)) (wrap_u _).2)
  have HQ1 := Lib.hid hp1
  clear hp1
  obtain ⟨p2, hp2⟩ : ∃ t, putS (u64 (M.i 2)) = t := ⟨_, rfl⟩
  have HP2 := Lib.hid (show p2.size ≤ 10 by rw [← hp2]; exact putS_size (u64 (M.i 2)) (wrap_u _).2)
  have HQ2 := Lib.hid hp2
  clear hp2
  obtain ⟨p0, hp0⟩ : ∃ t, putS (u64 2) = t := ⟨_, rfl⟩
  rw [hp0] at HNK HP0 ht
  clear hp0
  obtain ⟨pz, hpz⟩ : ∃ t, numS [M.i 6, M.i 8, M.i 9] ⟨#[]⟩ = t := ⟨_, rfl⟩
  have HZS : Hid (pz.size ≤ 10 * 3) := Lib.hid (by rw [← hpz]; exact num_len _ _)
  have HZ := Lib.hid hpz
  clear hpz
  have HNZ := Lib.hid (fun u : World => numbers_k (some ⟨u.heap.size, 0, none⟩) 3 3 [M.i 6, M.i 8, M.i 9] (u.alloc (.cells #[.int .i64 (M.i 6), .int .i64 (M.i 8), .int .i64 (M.i 9)] 3)) rfl (lit_row .i64 3 u [M.i 6, M.i 8, M.i 9] (by unfold maxLen; simp)) (by omega) pz HZ)
  unfold Ms.v at HRK ⊢
  unfold Ms.cl at hwa HRK ⊢
  rw [hk.out] at HRK hwa ⊢
  go_enter Try.func16, Try.ntmps16
  obtain ⟨k0, k1, k2, k3, k4, k5, k6, k7, k8, k9, k10, k11, k12⟩ := HM.out.cells
  rw [hk.out] at k0
  rw [hq] at k0 k1 k2 k3 k4 k5 k6 k7 k8 k9 k10 k11 k12
  rw [hwa] at k0 k1 k2 k3 k4 k5 k6 k7 k8 k9 k10 k11 k12
  go_wp2_with fail
  rw [← hwa, ← hq]
  clear k0 k1 k2 k3 k4 k5 k6 k7 k8 k9 k10 k11 k12 hwa hq
  refine (HRK.out _).mono ?_
  rintro e wn0 ⟨rfl, hbn⟩
  replace HBB := Lib.hid (HBB.out.trans (hbn.mono HBB.out.size))
  replace HM := Lib.hid (HM.out.below hbn)
  clear hbn
  obtain ⟨k0, k1, k2, k3, k4, k5, k6, k7, k8, k9, k10, k11, k12⟩ := HM.out.cells
  rw [hk.out] at k0
  clear HRK
  go_wp2_with fail
  refine (HNK.out _).mono ?_
  rintro e wn1 ⟨rfl, hbn⟩
  replace hbn := (below_alloc _ _).trans (hbn.mono (below_alloc _ _).size)
  replace HBB := Lib.hid (HBB.out.trans (hbn.mono HBB.out.size))
  replace HM := Lib.hid (HM.out.below hbn)
  clear hbn k0 k1 k2 k3 k4 k5 k6 k7 k8 k9 k10 k11 k12
  obtain ⟨k0, k1, k2, k3, k4, k5, k6, k7, k8, k9, k10, k11, k12⟩ := HM.out.cells
  rw [hk.out] at k0
  clear HNK
  have hsz2 : (p0).size + p1.size ≤ 1000 := by have := HP0.out; have := HP1.out; omega
  go_wp2_with fail
  refine (put_u (M.i 1) _ (HWF.out.n 1 rfl) p1 HQ1).mono ?_
  rintro e wn2 ⟨rfl, hbn⟩
  replace HBB := Lib.hid (HBB.out.trans (hbn.mono HBB.out.size))
  replace HM := Lib.hid (HM.out.below hbn)
  clear hbn k0 k1 k2 k3 k4 k5 k6 k7 k8 k9 k10 k11 k12
  obtain ⟨k0, k1, k2, k3, k4, k5, k6, k7, k8, k9, k10, k11, k12⟩ := HM.out.cells
  rw [hk.out] at k0
  have hsz3 : (p0 ++ p1).size + p2.size ≤ 1000 := by have := HP0.out; have := HP2.out; have := HP1.out; rw [ByteArray.size_append]; omega
  go_wp2_with fail
  refine (put_u (M.i 2) _ (HWF.out.n 2 rfl) p2 HQ2).mono ?_
  rintro e wn3 ⟨rfl, hbn⟩
  replace HBB := Lib.hid (HBB.out.trans (hbn.mono HBB.out.size))
  replace HM := Lib.hid (HM.out.below hbn)
  clear hbn k0 k1 k2 k3 k4 k5 k6 k7 k8 k9 k10 k11 k12
  obtain ⟨k0, k1, k2, k3, k4, k5, k6, k7, k8, k9, k10, k11, k12⟩ := HM.out.cells
  rw [hk.out] at k0
  go_wp2_with fail
  have hszz : ((p0 ++ p1) ++ p2).size + pz.size ≤ 1000 := by have := HP0.out; have := HP1.out; have := HP2.out; have := HZS.out; simp only [ByteArray.size_append]; omega
  have HE : Hid ((p0 ++ p1) ++ p2 ++ pz = t) := Lib.hid (by rw [← ht.out, ← HZ.out, num_end, ← HQ1.out, ← HQ2.out]; rfl)
  refine (HNZ.out _).mono ?_
  rintro e wz ⟨rfl, hbn⟩
  replace hbn := (below_alloc _ _).trans (hbn.mono (below_alloc _ _).size)
  replace HBB := Lib.hid (HBB.out.trans (hbn.mono HBB.out.size))
  clear hbn k0 k1 k2 k3 k4 k5 k6 k7 k8 k9 k10 k11 k12 HNZ
  go_wp2_with fail
  go_ret
  exact ⟨retS HE.out, HBB.out⟩
set_option maxHeartbeats 8000000 in
set_option maxRecDepth 100000 in
theorem renc_4 (M : Ms) (w : World) (hM : M.Wf) (hk : Hid (M.i 0 = 4)) (hr : Hid (rightM M = true)) (t : ByteArray) (ht : Hid (encL (fds 4) M (putS (u64 4)) = t)) :
    Calls Try.prog 16 #[M.v] w fun e w' => e = .returned (.string t) ∧ Below w.heap.size w w' := by
  have HWF := Lib.hid hM
  have HS := Lib.hid (right_offer hr.out)
  clear hM
  obtain ⟨q, hq⟩ : ∃ q, q = w.heap.size := ⟨_, rfl⟩
  obtain ⟨w0, hwa⟩ : ∃ wa, wa = w.alloc (.cells M.cl 29) := ⟨_, rfl⟩
  have HM : Hid (RAt w0 q M) := Lib.hid (by rw [hwa, hq]; exact heap_alloc_new w _)
  have HBB : Hid (Below w.heap.size w w0) := Lib.hid (by rw [hwa]; exact below_alloc _ _)
  have HRK := Lib.hid (fun u => rright_k M u HWF.out true hr)
  have HNK := Lib.hid (fun u : World => numbers_k (some ⟨u.heap.size, 0, none⟩) 1 1 [4] (u.alloc (.cells #[.int .i64 4] 3)) rfl (lit_row .i64 3 u [4] (by unfold maxLen; simp)) (by omega) (putS (u64 4)) (Lib.hid (app_emp _)))
  have HP0 := Lib.hid (putS_size (u64 4) (wrap_u _).2)
  obtain ⟨p2, hp2⟩ : ∃ t, putS (u64 (M.i 2)) = t := ⟨_, rfl⟩
  have HP2 := Lib.hid (show p2.size ≤ 10 by rw [← hp2]; exact putS_size (u64 (M.i 2)) (wrap_u _).2)
  have HQ2 := Lib.hid hp2
  clear hp2
  obtain ⟨p0, hp0⟩ : ∃ t, putS (u64 4) = t := ⟨_, rfl⟩
  rw [hp0] at HNK HP0 ht
  clear hp0
  obtain ⟨pz, hpz⟩ : ∃ t, numS [M.i 9] ⟨#[]⟩ = t := ⟨_, rfl⟩
  have HZS : Hid (pz.size ≤ 10 * 1) := Lib.hid (by rw [← hpz]; exact num_len _ _)
  have HZ := Lib.hid hpz
  clear hpz
  obtain ⟨p11, hp11⟩ : ∃ t, putS (u64 (M.i 11)) = t := ⟨_, rfl⟩
  have HP11 := Lib.hid (show p11.size ≤ 10 by rw [← hp11]; exact putS_size (u64 (M.i 11)) (wrap_u _).2)
  have HQ11 := Lib.hid hp11
  clear hp11
  obtain ⟨p12, hp12⟩ : ∃ t, putS (u64 (M.i 12)) = t := ⟨_, rfl⟩
  have HP12 := Lib.hid (show p12.size ≤ 10 by rw [← hp12]; exact putS_size (u64 (M.i 12)) (wrap_u _).2)
  have HQ12 := Lib.hid hp12
  clear hp12
  unfold Ms.v at HRK ⊢
  unfold Ms.cl at hwa HRK ⊢
  rw [hk.out] at HRK hwa ⊢
  go_enter Try.func16, Try.ntmps16
  obtain ⟨k0, k1, k2, k3, k4, k5, k6, k7, k8, k9, k10, k11, k12⟩ := HM.out.cells
  rw [hk.out] at k0
  rw [hq] at k0 k1 k2 k3 k4 k5 k6 k7 k8 k9 k10 k11 k12
  rw [hwa] at k0 k1 k2 k3 k4 k5 k6 k7 k8 k9 k10 k11 k12
  go_wp2_with fail
  rw [← hwa, ← hq]
  clear k0 k1 k2 k3 k4 k5 k6 k7 k8 k9 k10 k11 k12 hwa hq
  refine (HRK.out _).mono ?_
  rintro e wn0 ⟨rfl, hbn⟩
  replace HBB := Lib.hid (HBB.out.trans (hbn.mono HBB.out.size))
  replace HM := Lib.hid (HM.out.below hbn)
  clear hbn
  obtain ⟨k0, k1, k2, k3, k4, k5, k6, k7, k8, k9, k10, k11, k12⟩ := HM.out.cells
  rw [hk.out] at k0
  clear HRK
  go_wp2_with fail
  refine (HNK.out _).mono ?_
  rintro e wn1 ⟨rfl, hbn⟩
  replace hbn := (below_alloc _ _).trans (hbn.mono (below_alloc _ _).size)
  replace HBB := Lib.hid (HBB.out.trans (hbn.mono HBB.out.size))
  replace HM := Lib.hid (HM.out.below hbn)
  clear hbn k0 k1 k2 k3 k4 k5 k6 k7 k8 k9 k10 k11 k12
  obtain ⟨k0, k1, k2, k3, k4, k5, k6, k7, k8, k9, k10, k11, k12⟩ := HM.out.cells
  rw [hk.out] at k0
  clear HNK
  have hsz2 : (p0).size + p2.size ≤ 1000 := by have := HP0.out; have := HP2.out; omega
  go_wp2_with fail
  refine (put_u (M.i 2) _ (HWF.out.n 2 rfl) p2 HQ2).mono ?_
  rintro e wn2 ⟨rfl, hbn⟩
  replace HBB := Lib.hid (HBB.out.trans (hbn.mono HBB.out.size))
  replace HM := Lib.hid (HM.out.below hbn)
  clear hbn k0 k1 k2 k3 k4 k5 k6 k7 k8 k9 k10 k11 k12
  obtain ⟨k0, k1, k2, k3, k4, k5, k6, k7, k8, k9, k10, k11, k12⟩ := HM.out.cells
  rw [hk.out] at k0
  go_wp2_with fail
  obtain ⟨wz, hwz⟩ : ∃ wz, wz = wn2 := ⟨_, rfl⟩
  rw [← hwz] at HM HBB ⊢
  clear hwz k0 k1 k2 k3 k4 k5 k6 k7 k8 k9 k10 k11 k12
  have hsz5 : ¬ 9223372036854775807 < p0.size + p2.size + p11.size := by have := HP0.out; have := HP2.out; have := HP11.out; omega
  have hsz6 : ¬ 9223372036854775807 < p0.size + p2.size + p11.size + p12.size := by have := HP0.out; have := HP2.out; have := HP11.out; have := HP12.out; omega
  have hsz7 : ¬ 9223372036854775807 < p0.size + p2.size + p11.size + p12.size + pz.size := by have := HP0.out; have := HP2.out; have := HP11.out; have := HP12.out; have := HZS.out; omega
  have HE : Hid (((p0 ++ p2 ++ p11) ++ p12) ++ pz = t) := Lib.hid (by rw [← ht.out, ← HZ.out, num_end, ← HQ2.out, ← HQ11.out, ← HQ12.out]; rfl)
  refine wp_region_held_drew (S := fun w => Below wz.heap.size wz w) (by kernel_rfl) (drewN_below2 (Nat.le_refl _) 1) (fun hHeld => ?_)
  refine wpAnyH_take (i := 0) (oi := ?o10) (v := ?v10) ?i10 (by kernel_rfl) (by kernel_rfl) (by kernel_rfl) ?q10 (Or.inl ⟨?w10, ?y10⟩) (by assumption) ?r10
  case' i10 => simp only [List.getElem?_toArray, List.getElem?_cons_succ, List.getElem?_cons_zero]
  case i10 => rfl
  case q10 => exact fun _ _ _ h => h
  case w10 => rfl
  case y10 => (intro w hSw; go_simp) <;> with_reducible rfl
  try simp only [Act.put, List.setIfInBounds_toArray, List.set_cons_zero, List.set_cons_succ]
  refine wpAnyH_take (i := 1) (oi := ?o11) (v := ?v11) ?i11 (by kernel_rfl) (by kernel_rfl) (by kernel_rfl) ?q11 (Or.inl ⟨?w11, ?y11⟩) (by assumption) ?r11
  case' i11 => simp only [List.getElem?_toArray, List.getElem?_cons_succ, List.getElem?_cons_zero]
  case i11 => rfl
  case q11 => exact fun _ _ _ h => h
  case w11 => rfl
  case y11 => (intro w hSw; go_simp) <;> with_reducible rfl
  try simp only [Act.put, List.setIfInBounds_toArray, List.set_cons_zero, List.set_cons_succ]
  refine wpAnyH_take (i := 2) (oi := ?o12) (v := ?v12) ?i12 (by kernel_rfl) (by kernel_rfl) (by kernel_rfl) ?q12 (Or.inl ⟨?w12, ?y12⟩) (by assumption) ?r12
  case' i12 => simp only [List.getElem?_toArray, List.getElem?_cons_succ, List.getElem?_cons_zero]
  case i12 => rfl
  case q12 => exact fun _ _ _ h => h
  case w12 => rfl
  case y12 => (intro w hSw; obtain ⟨k0, k1, k2, k3, k4, k5, k6, k7, k8, k9, k10, k11, k12⟩ := (HM.out.below hSw).cells; go_simp) <;> with_reducible rfl
  try simp only [Act.put, List.setIfInBounds_toArray, List.set_cons_zero, List.set_cons_succ]
  refine wpAnyH_take (i := 5) (oi := ?o13) (v := ?v13) ?i13 (by kernel_rfl) (by kernel_rfl) (by kernel_rfl) ?q13 (Or.inl ⟨?w13, ?y13⟩) (by assumption) ?r13
  case' i13 => simp only [List.getElem?_toArray, List.getElem?_cons_succ, List.getElem?_cons_zero]
  case i13 => rfl
  case q13 => exact fun _ _ _ h => h
  case w13 => rfl
  case y13 => (intro w hSw; go_simp) <;> with_reducible rfl
  try simp only [Act.put, List.setIfInBounds_toArray, List.set_cons_zero, List.set_cons_succ]
  refine wpAnyH_take (i := 6) (oi := ?o14) (v := ?v14) ?i14 (by kernel_rfl) (by kernel_rfl) (by kernel_rfl) ?q14 (Or.inl ⟨?w14, ?y14⟩) (by assumption) ?r14
  case' i14 => simp only [List.getElem?_toArray, List.getElem?_cons_succ, List.getElem?_cons_zero]
  case i14 => rfl
  case q14 => exact fun _ _ _ h => h
  case w14 => rfl
  case y14 => (intro w hSw; obtain ⟨k0, k1, k2, k3, k4, k5, k6, k7, k8, k9, k10, k11, k12⟩ := (HM.out.below hSw).cells; go_simp) <;> with_reducible rfl
  try simp only [Act.put, List.setIfInBounds_toArray, List.set_cons_zero, List.set_cons_succ]
  refine wpAnyH_take (i := 9) (oi := ?o15) (v := ?v15) ?i15 (by kernel_rfl) (by kernel_rfl) (by kernel_rfl) ?q15 (Or.inl ⟨?w15, ?y15⟩) (by assumption) ?r15
  case' i15 => simp only [List.getElem?_toArray, List.getElem?_cons_succ, List.getElem?_cons_zero]
  case i15 => rfl
  case q15 => exact fun _ _ _ h => h
  case w15 => rfl
  case y15 => (intro w hSw; go_simp) <;> with_reducible rfl
  try simp only [Act.put, List.setIfInBounds_toArray, List.set_cons_zero, List.set_cons_succ]
  refine wpAnyH_take (i := 10) (oi := ?o16) (v := ?v16) ?i16 (by kernel_rfl) (by kernel_rfl) (by kernel_rfl) ?q16 (Or.inl ⟨?w16, ?y16⟩) (by assumption) ?r16
  case' i16 => simp only [List.getElem?_toArray, List.getElem?_cons_succ, List.getElem?_cons_zero]
  case i16 => rfl
  case q16 => exact fun _ _ _ h => h
  case w16 => rfl
  case y16 => (intro w hSw; obtain ⟨k0, k1, k2, k3, k4, k5, k6, k7, k8, k9, k10, k11, k12⟩ := (HM.out.below hSw).cells; go_simp) <;> with_reducible rfl
  try simp only [Act.put, List.setIfInBounds_toArray, List.set_cons_zero, List.set_cons_succ]
  refine wpAnyH_ready (rs := [3, 11]) (by kernel_rfl) (by simp) ?_
  refine AllReadyH.cons (o := ?o37) ?i37 (fun K' hK => ?r37) (AllReadyH.cons (o := ?o38) ?i38 (fun K' hK => ?r38) AllReadyH.nil)
  case' i37 => simp only [List.getElem?_toArray, List.getElem?_cons_succ, List.getElem?_cons_zero]
  case i37 => rfl
  case' i38 => simp only [List.getElem?_toArray, List.getElem?_cons_succ, List.getElem?_cons_zero]
  case i38 => rfl
  case r37 =>
    go_simp
    go_at_call 31
    refine (put_u (M.i 11) _ (HWF.out.n 11 rfl) p11 HQ11).mono ?_
    rintro e w1 ⟨rfl, hb1⟩
    have hS1 := hHeld.trans (hb1.mono hHeld.size)
    clear hb1
    go_wp2_with fail
    refine hK.out _ _ hS1 (fun hHeld => ?_)
    clear hK K'
    try simp only [Act.put, List.setIfInBounds_toArray, List.set_cons_zero, List.set_cons_succ]
    refine wpAnyH_take (i := 4) (oi := ?o17) (v := ?v17) ?i17 (by kernel_rfl) (by kernel_rfl) (by kernel_rfl) ?q17 (Or.inl ⟨?w17, ?y17⟩) (by assumption) ?r17
    case' i17 => simp only [List.getElem?_toArray, List.getElem?_cons_succ, List.getElem?_cons_zero]
    case i17 => rfl
    case q17 => exact fun _ _ _ h => h
    case w17 => rfl
    case y17 => (intro w hSw; go_simp) <;> with_reducible rfl
    try simp only [Act.put, List.setIfInBounds_toArray, List.set_cons_zero, List.set_cons_succ]
    refine wpAnyH_ready (rs := [7, 11]) (by kernel_rfl) (by simp) ?_
    refine AllReadyH.cons (o := ?o28) ?i28 (fun K' hK => ?r28) (AllReadyH.cons (o := ?o29) ?i29 (fun K' hK => ?r29) AllReadyH.nil)
    case' i28 => simp only [List.getElem?_toArray, List.getElem?_cons_succ, List.getElem?_cons_zero]
    case i28 => rfl
    case' i29 => simp only [List.getElem?_toArray, List.getElem?_cons_succ, List.getElem?_cons_zero]
    case i29 => rfl
    case r28 =>
      go_simp
      go_at_call 31
      refine (put_u (M.i 12) _ (HWF.out.n 12 rfl) p12 HQ12).mono ?_
      rintro e w2 ⟨rfl, hb1⟩
      have hS1 := hHeld.trans (hb1.mono hHeld.size)
      clear hb1
      go_wp2_with fail
      refine hK.out _ _ hS1 (fun hHeld => ?_)
      clear hK K'
      try simp only [Act.put, List.setIfInBounds_toArray, List.set_cons_zero, List.set_cons_succ]
      refine wpAnyH_take (i := 8) (oi := ?o18) (v := ?v18) ?i18 (by kernel_rfl) (by kernel_rfl) (by kernel_rfl) ?q18 (Or.inl ⟨?w18, ?y18⟩) (by assumption) ?r18
      case' i18 => simp only [List.getElem?_toArray, List.getElem?_cons_succ, List.getElem?_cons_zero]
      case i18 => rfl
      case q18 => exact fun _ _ _ h => h
      case w18 => rfl
      case y18 => (intro w hSw; go_simp) <;> with_reducible rfl
      try simp only [Act.put, List.setIfInBounds_toArray, List.set_cons_zero, List.set_cons_succ]
      refine wpAnyH_ready (rs := [11]) (by kernel_rfl) (by simp) ?_
      refine AllReadyH.cons (o := ?o22) ?i22 (fun K' hK => ?r22) AllReadyH.nil
      case' i22 => simp only [List.getElem?_toArray, List.getElem?_cons_succ, List.getElem?_cons_zero]
      case i22 => rfl
      case r22 =>
        go_simp
        have hS2 : Below wz.heap.size wz (w2.alloc (.cells #[.int .i64 (M.i 9)] 3)) := hHeld.trans ((below_alloc _ _).mono hHeld.size)
        have hrow := Lib.hid (lit_row .i64 3 w2 [M.i 9] (by unfold maxLen; simp))
        refine hK.out _ _ hS2 (fun hHeld => ?_)
        clear hK K'
        try simp only [Act.put, List.setIfInBounds_toArray, List.set_cons_zero, List.set_cons_succ]
        refine wpAnyH_ready (rs := [12]) (by kernel_rfl) (by simp) ?_
        refine AllReadyH.cons (o := ?o21) ?i21 (fun K' hK => ?r21) AllReadyH.nil
        case' i21 => simp only [List.getElem?_toArray, List.getElem?_cons_succ, List.getElem?_cons_zero]
        case i21 => rfl
        case r21 =>
          go_simp
          go_at_call 30
          refine (numbers_k _ 1 1 [M.i 9] _ rfl hrow.out (by omega) pz HZ).mono ?_
          rintro e w3 ⟨rfl, hb3⟩
          have hS3 := hHeld.trans (hb3.mono hHeld.size)
          go_wp2_with fail
          refine hK.out _ _ hS3 (fun hHeld => ?_)
          clear hK K'
          try simp only [Act.put, List.setIfInBounds_toArray, List.set_cons_zero, List.set_cons_succ]
          refine wpAnyH_take (i := 13) (oi := ?o19) (v := ?v19) ?i19 (by kernel_rfl) (by kernel_rfl) (by kernel_rfl) ?q19 (Or.inl ⟨?w19, ?y19⟩) (by assumption) ?r19
          case' i19 => simp only [List.getElem?_toArray, List.getElem?_cons_succ, List.getElem?_cons_zero]
          case i19 => rfl
          case q19 => exact fun _ _ _ h => h
          case w19 => rfl
          case y19 => (intro w hSw; go_simp) <;> with_reducible rfl
          try simp only [Act.put, List.setIfInBounds_toArray, List.set_cons_zero, List.set_cons_succ]
          refine wpAnyH_take (i := 14) (oi := ?o20) (v := ?v20) ?i20 (by kernel_rfl) (by kernel_rfl) (by kernel_rfl) ?q20 (Or.inl ⟨?w20, ?y20⟩) (by assumption) ?r20
          case' i20 => simp only [List.getElem?_toArray, List.getElem?_cons_succ, List.getElem?_cons_zero]
          case i20 => rfl
          case q20 => exact fun _ _ _ h => h
          case w20 => rfl
          case y20 => (intro w hSw; go_simp) <;> with_reducible rfl
          try simp only [Act.put, List.setIfInBounds_toArray, List.set_cons_zero, List.set_cons_succ]
          refine wpAnyH_done (by kernel_rfl) ?_ _
          go_wp2_with fail
          go_ret
          exact ⟨retS HE.out, HBB.out.trans (hHeld.mono HBB.out.size)⟩
    case r29 =>
      go_simp
      have hS2 : Below wz.heap.size wz (w1.alloc (.cells #[.int .i64 (M.i 9)] 3)) := hHeld.trans ((below_alloc _ _).mono hHeld.size)
      have hrow := Lib.hid (lit_row .i64 3 w1 [M.i 9] (by unfold maxLen; simp))
      refine hK.out _ _ hS2 (fun hHeld => ?_)
      clear hK K'
      try simp only [Act.put, List.setIfInBounds_toArray, List.set_cons_zero, List.set_cons_succ]
      refine wpAnyH_ready (rs := [7]) (by kernel_rfl) (by simp) ?_
      refine AllReadyH.cons (o := ?o27) ?i27 (fun K' hK => ?r27) AllReadyH.nil
      case' i27 => simp only [List.getElem?_toArray, List.getElem?_cons_succ, List.getElem?_cons_zero]
      case i27 => rfl
      case r27 =>
        go_simp
        go_at_call 31
        refine (put_u (M.i 12) _ (HWF.out.n 12 rfl) p12 HQ12).mono ?_
        rintro e w2 ⟨rfl, hb1⟩
        have hrow3 := Lib.hid (hrow.out.below hb1)
        have hS1 := hHeld.trans (hb1.mono hHeld.size)
        clear hb1
        go_wp2_with fail
        refine hK.out _ _ hS1 (fun hHeld => ?_)
        clear hK K'
        try simp only [Act.put, List.setIfInBounds_toArray, List.set_cons_zero, List.set_cons_succ]
        refine wpAnyH_take (i := 8) (oi := ?o23) (v := ?v23) ?i23 (by kernel_rfl) (by kernel_rfl) (by kernel_rfl) ?q23 (Or.inl ⟨?w23, ?y23⟩) (by assumption) ?r23
        case' i23 => simp only [List.getElem?_toArray, List.getElem?_cons_succ, List.getElem?_cons_zero]
        case i23 => rfl
        case q23 => exact fun _ _ _ h => h
        case w23 => rfl
        case y23 => (intro w hSw; go_simp) <;> with_reducible rfl
        try simp only [Act.put, List.setIfInBounds_toArray, List.set_cons_zero, List.set_cons_succ]
        refine wpAnyH_ready (rs := [12]) (by kernel_rfl) (by simp) ?_
        refine AllReadyH.cons (o := ?o26) ?i26 (fun K' hK => ?r26) AllReadyH.nil
        case' i26 => simp only [List.getElem?_toArray, List.getElem?_cons_succ, List.getElem?_cons_zero]
        case i26 => rfl
        case r26 =>
          go_simp
          go_at_call 30
          refine (numbers_k _ 1 1 [M.i 9] _ rfl hrow3.out (by omega) pz HZ).mono ?_
          rintro e w3 ⟨rfl, hb3⟩
          have hS3 := hHeld.trans (hb3.mono hHeld.size)
          go_wp2_with fail
          refine hK.out _ _ hS3 (fun hHeld => ?_)
          clear hK K'
          try simp only [Act.put, List.setIfInBounds_toArray, List.set_cons_zero, List.set_cons_succ]
          refine wpAnyH_take (i := 13) (oi := ?o24) (v := ?v24) ?i24 (by kernel_rfl) (by kernel_rfl) (by kernel_rfl) ?q24 (Or.inl ⟨?w24, ?y24⟩) (by assumption) ?r24
          case' i24 => simp only [List.getElem?_toArray, List.getElem?_cons_succ, List.getElem?_cons_zero]
          case i24 => rfl
          case q24 => exact fun _ _ _ h => h
          case w24 => rfl
          case y24 => (intro w hSw; go_simp) <;> with_reducible rfl
          try simp only [Act.put, List.setIfInBounds_toArray, List.set_cons_zero, List.set_cons_succ]
          refine wpAnyH_take (i := 14) (oi := ?o25) (v := ?v25) ?i25 (by kernel_rfl) (by kernel_rfl) (by kernel_rfl) ?q25 (Or.inl ⟨?w25, ?y25⟩) (by assumption) ?r25
          case' i25 => simp only [List.getElem?_toArray, List.getElem?_cons_succ, List.getElem?_cons_zero]
          case i25 => rfl
          case q25 => exact fun _ _ _ h => h
          case w25 => rfl
          case y25 => (intro w hSw; go_simp) <;> with_reducible rfl
          try simp only [Act.put, List.setIfInBounds_toArray, List.set_cons_zero, List.set_cons_succ]
          refine wpAnyH_done (by kernel_rfl) ?_ _
          go_wp2_with fail
          go_ret
          exact ⟨retS HE.out, HBB.out.trans (hHeld.mono HBB.out.size)⟩
  case r38 =>
    go_simp
    have hS2 : Below wz.heap.size wz (wz.drew.alloc (.cells #[.int .i64 (M.i 9)] 3)) := hHeld.trans ((below_alloc _ _).mono hHeld.size)
    have hrow := Lib.hid (lit_row .i64 3 wz.drew [M.i 9] (by unfold maxLen; simp))
    refine hK.out _ _ hS2 (fun hHeld => ?_)
    clear hK K'
    try simp only [Act.put, List.setIfInBounds_toArray, List.set_cons_zero, List.set_cons_succ]
    refine wpAnyH_ready (rs := [3]) (by kernel_rfl) (by simp) ?_
    refine AllReadyH.cons (o := ?o36) ?i36 (fun K' hK => ?r36) AllReadyH.nil
    case' i36 => simp only [List.getElem?_toArray, List.getElem?_cons_succ, List.getElem?_cons_zero]
    case i36 => rfl
    case r36 =>
      go_simp
      go_at_call 31
      refine (put_u (M.i 11) _ (HWF.out.n 11 rfl) p11 HQ11).mono ?_
      rintro e w1 ⟨rfl, hb1⟩
      have hrow2 := Lib.hid (hrow.out.below hb1)
      have hS1 := hHeld.trans (hb1.mono hHeld.size)
      clear hb1
      go_wp2_with fail
      refine hK.out _ _ hS1 (fun hHeld => ?_)
      clear hK K'
      try simp only [Act.put, List.setIfInBounds_toArray, List.set_cons_zero, List.set_cons_succ]
      refine wpAnyH_take (i := 4) (oi := ?o30) (v := ?v30) ?i30 (by kernel_rfl) (by kernel_rfl) (by kernel_rfl) ?q30 (Or.inl ⟨?w30, ?y30⟩) (by assumption) ?r30
      case' i30 => simp only [List.getElem?_toArray, List.getElem?_cons_succ, List.getElem?_cons_zero]
      case i30 => rfl
      case q30 => exact fun _ _ _ h => h
      case w30 => rfl
      case y30 => (intro w hSw; go_simp) <;> with_reducible rfl
      try simp only [Act.put, List.setIfInBounds_toArray, List.set_cons_zero, List.set_cons_succ]
      refine wpAnyH_ready (rs := [7]) (by kernel_rfl) (by simp) ?_
      refine AllReadyH.cons (o := ?o35) ?i35 (fun K' hK => ?r35) AllReadyH.nil
      case' i35 => simp only [List.getElem?_toArray, List.getElem?_cons_succ, List.getElem?_cons_zero]
      case i35 => rfl
      case r35 =>
        go_simp
        go_at_call 31
        refine (put_u (M.i 12) _ (HWF.out.n 12 rfl) p12 HQ12).mono ?_
        rintro e w2 ⟨rfl, hb1⟩
        have hrow3 := Lib.hid (hrow2.out.below hb1)
        have hS1 := hHeld.trans (hb1.mono hHeld.size)
        clear hb1
        go_wp2_with fail
        refine hK.out _ _ hS1 (fun hHeld => ?_)
        clear hK K'
        try simp only [Act.put, List.setIfInBounds_toArray, List.set_cons_zero, List.set_cons_succ]
        refine wpAnyH_take (i := 8) (oi := ?o31) (v := ?v31) ?i31 (by kernel_rfl) (by kernel_rfl) (by kernel_rfl) ?q31 (Or.inl ⟨?w31, ?y31⟩) (by assumption) ?r31
        case' i31 => simp only [List.getElem?_toArray, List.getElem?_cons_succ, List.getElem?_cons_zero]
        case i31 => rfl
        case q31 => exact fun _ _ _ h => h
        case w31 => rfl
        case y31 => (intro w hSw; go_simp) <;> with_reducible rfl
        try simp only [Act.put, List.setIfInBounds_toArray, List.set_cons_zero, List.set_cons_succ]
        refine wpAnyH_ready (rs := [12]) (by kernel_rfl) (by simp) ?_
        refine AllReadyH.cons (o := ?o34) ?i34 (fun K' hK => ?r34) AllReadyH.nil
        case' i34 => simp only [List.getElem?_toArray, List.getElem?_cons_succ, List.getElem?_cons_zero]
        case i34 => rfl
        case r34 =>
          go_simp
          go_at_call 30
          refine (numbers_k _ 1 1 [M.i 9] _ rfl hrow3.out (by omega) pz HZ).mono ?_
          rintro e w3 ⟨rfl, hb3⟩
          have hS3 := hHeld.trans (hb3.mono hHeld.size)
          go_wp2_with fail
          refine hK.out _ _ hS3 (fun hHeld => ?_)
          clear hK K'
          try simp only [Act.put, List.setIfInBounds_toArray, List.set_cons_zero, List.set_cons_succ]
          refine wpAnyH_take (i := 13) (oi := ?o32) (v := ?v32) ?i32 (by kernel_rfl) (by kernel_rfl) (by kernel_rfl) ?q32 (Or.inl ⟨?w32, ?y32⟩) (by assumption) ?r32
          case' i32 => simp only [List.getElem?_toArray, List.getElem?_cons_succ, List.getElem?_cons_zero]
          case i32 => rfl
          case q32 => exact fun _ _ _ h => h
          case w32 => rfl
          case y32 => (intro w hSw; go_simp) <;> with_reducible rfl
          try simp only [Act.put, List.setIfInBounds_toArray, List.set_cons_zero, List.set_cons_succ]
          refine wpAnyH_take (i := 14) (oi := ?o33) (v := ?v33) ?i33 (by kernel_rfl) (by kernel_rfl) (by kernel_rfl) ?q33 (Or.inl ⟨?w33, ?y33⟩) (by assumption) ?r33
          case' i33 => simp only [List.getElem?_toArray, List.getElem?_cons_succ, List.getElem?_cons_zero]
          case i33 => rfl
          case q33 => exact fun _ _ _ h => h
          case w33 => rfl
          case y33 => (intro w hSw; go_simp) <;> with_reducible rfl
          try simp only [Act.put, List.setIfInBounds_toArray, List.set_cons_zero, List.set_cons_succ]
          refine wpAnyH_done (by kernel_rfl) ?_ _
          go_wp2_with fail
          go_ret
          exact ⟨retS HE.out, HBB.out.trans (hHeld.mono HBB.out.size)⟩
set_option maxHeartbeats 8000000 in
set_option maxRecDepth 100000 in
theorem renc_1 (M : Ms) (w : World) (hM : M.Wf) (hk : Hid (M.i 0 = 1)) (hr : Hid (rightM M = true)) (t : ByteArray) (ht : Hid (encL (fds 1) M (putS (u64 1)) = t)) :
    Calls Try.prog 16 #[M.v] w fun e w' => e = .returned (.string t) ∧ Below w.heap.size w w' := by
  have HWF := Lib.hid hM
  have HS := Lib.hid (right_offer hr.out)
  clear hM
  obtain ⟨q, hq⟩ : ∃ q, q = w.heap.size := ⟨_, rfl⟩
  obtain ⟨w0, hwa⟩ : ∃ wa, wa = w.alloc (.cells M.cl 29) := ⟨_, rfl⟩
  have HM : Hid (RAt w0 q M) := Lib.hid (by rw [hwa, hq]; exact heap_alloc_new w _)
  have HBB : Hid (Below w.heap.size w w0) := Lib.hid (by rw [hwa]; exact below_alloc _ _)
  have HRK := Lib.hid (fun u => rright_k M u HWF.out true hr)
  have HNK := Lib.hid (fun u : World => numbers_k (some ⟨u.heap.size, 0, none⟩) 1 1 [1] (u.alloc (.cells #[.int .i64 1] 3)) rfl (lit_row .i64 3 u [1] (by unfold maxLen; simp)) (by omega) (putS (u64 1)) (Lib.hid (app_emp _)))
  have HP0 := Lib.hid (putS_size (u64 1) (wrap_u _).2)
  obtain ⟨p1, hp1⟩ : ∃ t, putS (u64 (M.i 1)) = t := ⟨_, rfl⟩
  have HP1 := Lib.hid (show p1.size ≤ 10 by rw [← hp1]; exact putS_size (u64 (M.i 1)) (wrap_u _).2)
  have HQ1 := Lib.hid hp1
  clear hp1
  obtain ⟨p0, hp0⟩ : ∃ t, putS (u64 1) = t := ⟨_, rfl⟩
  rw [hp0] at HNK HP0 ht
  clear hp0
  obtain ⟨pz, hpz⟩ : ∃ t, numS [M.i 4, M.i 6, M.i 7, M.i 8, M.i 9, M.i 10] ⟨#[]⟩ = t := ⟨_, rfl⟩
  have HZS : Hid (pz.size ≤ 10 * 6) := Lib.hid (by rw [← hpz]; exact num_len _ _)
  have HZ := Lib.hid hpz
  clear hpz
  obtain ⟨pt, hpt⟩ : ∃ t, ptS M.s = t := ⟨_, rfl⟩
  have HTS : Hid (pt.size ≤ 20) := Lib.hid (by rw [← hpt]; exact by_size .ver HS.out)
  have HT := Lib.hid hpt
  have HPT := Lib.hid (fun u => rputText_any M.s u (by have := HS.out; omega))
  rw [hpt] at HPT
  clear hpt
  unfold Ms.v at HRK ⊢
  unfold Ms.cl at hwa HRK ⊢
  rw [hk.out] at HRK hwa ⊢
  go_enter Try.func16, Try.ntmps16
  obtain ⟨k0, k1, k2, k3, k4, k5, k6, k7, k8, k9, k10, k11, k12⟩ := HM.out.cells
  rw [hk.out] at k0
  rw [hq] at k0 k1 k2 k3 k4 k5 k6 k7 k8 k9 k10 k11 k12
  rw [hwa] at k0 k1 k2 k3 k4 k5 k6 k7 k8 k9 k10 k11 k12
  go_wp2_with fail
  rw [← hwa, ← hq]
  clear k0 k1 k2 k3 k4 k5 k6 k7 k8 k9 k10 k11 k12 hwa hq
  refine (HRK.out _).mono ?_
  rintro e wn0 ⟨rfl, hbn⟩
  replace HBB := Lib.hid (HBB.out.trans (hbn.mono HBB.out.size))
  replace HM := Lib.hid (HM.out.below hbn)
  clear hbn
  obtain ⟨k0, k1, k2, k3, k4, k5, k6, k7, k8, k9, k10, k11, k12⟩ := HM.out.cells
  rw [hk.out] at k0
  clear HRK
  go_wp2_with fail
  refine (HNK.out _).mono ?_
  rintro e wn1 ⟨rfl, hbn⟩
  replace hbn := (below_alloc _ _).trans (hbn.mono (below_alloc _ _).size)
  replace HBB := Lib.hid (HBB.out.trans (hbn.mono HBB.out.size))
  replace HM := Lib.hid (HM.out.below hbn)
  clear hbn k0 k1 k2 k3 k4 k5 k6 k7 k8 k9 k10 k11 k12
  obtain ⟨k0, k1, k2, k3, k4, k5, k6, k7, k8, k9, k10, k11, k12⟩ := HM.out.cells
  rw [hk.out] at k0
  clear HNK
  have hsz2 : (p0).size + p1.size ≤ 1000 := by have := HP0.out; have := HP1.out; omega
  go_wp2_with fail
  refine (put_u (M.i 1) _ (HWF.out.n 1 rfl) p1 HQ1).mono ?_
  rintro e wn2 ⟨rfl, hbn⟩
  replace HBB := Lib.hid (HBB.out.trans (hbn.mono HBB.out.size))
  replace HM := Lib.hid (HM.out.below hbn)
  clear hbn k0 k1 k2 k3 k4 k5 k6 k7 k8 k9 k10 k11 k12
  obtain ⟨k0, k1, k2, k3, k4, k5, k6, k7, k8, k9, k10, k11, k12⟩ := HM.out.cells
  rw [hk.out] at k0
  go_wp2_with fail
  obtain ⟨wz, hwz⟩ : ∃ wz, wz = wn2 := ⟨_, rfl⟩
  rw [← hwz] at HM HBB ⊢
  clear hwz k0 k1 k2 k3 k4 k5 k6 k7 k8 k9 k10 k11 k12
  have hsz5 : ¬ 9223372036854775807 < p0.size + p1.size + pt.size := by have := HP0.out; have := HP1.out; have := HTS.out; omega
  have hsz6 : ¬ 9223372036854775807 < p0.size + p1.size + pt.size + pz.size := by have := HP0.out; have := HP1.out; have := HTS.out; have := HZS.out; omega
  have HE : Hid ((p0 ++ p1 ++ pt) ++ pz = t) := Lib.hid (by rw [← ht.out, ← HZ.out, num_end, ← HQ1.out, ← HT.out]; rfl)
  refine wp_region_held_drew (S := fun w => Below wz.heap.size wz w) (by kernel_rfl) (drewN_below2 (Nat.le_refl _) 1) (fun hHeld => ?_)
  refine wpAnyH_take (i := 0) (oi := ?o39) (v := ?v39) ?i39 (by kernel_rfl) (by kernel_rfl) (by kernel_rfl) ?q39 (Or.inl ⟨?w39, ?y39⟩) (by assumption) ?r39
  case' i39 => simp only [List.getElem?_toArray, List.getElem?_cons_succ, List.getElem?_cons_zero]
  case i39 => rfl
  case q39 => exact fun _ _ _ h => h
  case w39 => rfl
  case y39 => (intro w hSw; go_simp) <;> with_reducible rfl
  try simp only [Act.put, List.setIfInBounds_toArray, List.set_cons_zero, List.set_cons_succ]
  refine wpAnyH_take (i := 1) (oi := ?o40) (v := ?v40) ?i40 (by kernel_rfl) (by kernel_rfl) (by kernel_rfl) ?q40 (Or.inl ⟨?w40, ?y40⟩) (by assumption) ?r40
  case' i40 => simp only [List.getElem?_toArray, List.getElem?_cons_succ, List.getElem?_cons_zero]
  case i40 => rfl
  case q40 => exact fun _ _ _ h => h
  case w40 => rfl
  case y40 => (intro w hSw; go_simp) <;> with_reducible rfl
  try simp only [Act.put, List.setIfInBounds_toArray, List.set_cons_zero, List.set_cons_succ]
  refine wpAnyH_take (i := 2) (oi := ?o41) (v := ?v41) ?i41 (by kernel_rfl) (by kernel_rfl) (by kernel_rfl) ?q41 (Or.inl ⟨?w41, ?y41⟩) (by assumption) ?r41
  case' i41 => simp only [List.getElem?_toArray, List.getElem?_cons_succ, List.getElem?_cons_zero]
  case i41 => rfl
  case q41 => exact fun _ _ _ h => h
  case w41 => rfl
  case y41 => (intro w hSw; obtain ⟨k0, k1, k2, k3, k4, k5, k6, k7, k8, k9, k10, k11, k12⟩ := (HM.out.below hSw).cells; go_simp) <;> with_reducible rfl
  try simp only [Act.put, List.setIfInBounds_toArray, List.set_cons_zero, List.set_cons_succ]
  refine wpAnyH_take (i := 5) (oi := ?o42) (v := ?v42) ?i42 (by kernel_rfl) (by kernel_rfl) (by kernel_rfl) ?q42 (Or.inl ⟨?w42, ?y42⟩) (by assumption) ?r42
  case' i42 => simp only [List.getElem?_toArray, List.getElem?_cons_succ, List.getElem?_cons_zero]
  case i42 => rfl
  case q42 => exact fun _ _ _ h => h
  case w42 => rfl
  case y42 => (intro w hSw; go_simp) <;> with_reducible rfl
  try simp only [Act.put, List.setIfInBounds_toArray, List.set_cons_zero, List.set_cons_succ]
  refine wpAnyH_take (i := 6) (oi := ?o43) (v := ?v43) ?i43 (by kernel_rfl) (by kernel_rfl) (by kernel_rfl) ?q43 (Or.inl ⟨?w43, ?y43⟩) (by assumption) ?r43
  case' i43 => simp only [List.getElem?_toArray, List.getElem?_cons_succ, List.getElem?_cons_zero]
  case i43 => rfl
  case q43 => exact fun _ _ _ h => h
  case w43 => rfl
  case y43 => (intro w hSw; obtain ⟨k0, k1, k2, k3, k4, k5, k6, k7, k8, k9, k10, k11, k12⟩ := (HM.out.below hSw).cells; go_simp) <;> with_reducible rfl
  try simp only [Act.put, List.setIfInBounds_toArray, List.set_cons_zero, List.set_cons_succ]
  refine wpAnyH_take (i := 7) (oi := ?o44) (v := ?v44) ?i44 (by kernel_rfl) (by kernel_rfl) (by kernel_rfl) ?q44 (Or.inl ⟨?w44, ?y44⟩) (by assumption) ?r44
  case' i44 => simp only [List.getElem?_toArray, List.getElem?_cons_succ, List.getElem?_cons_zero]
  case i44 => rfl
  case q44 => exact fun _ _ _ h => h
  case w44 => rfl
  case y44 => (intro w hSw; go_simp) <;> with_reducible rfl
  try simp only [Act.put, List.setIfInBounds_toArray, List.set_cons_zero, List.set_cons_succ]
  refine wpAnyH_take (i := 8) (oi := ?o45) (v := ?v45) ?i45 (by kernel_rfl) (by kernel_rfl) (by kernel_rfl) ?q45 (Or.inl ⟨?w45, ?y45⟩) (by assumption) ?r45
  case' i45 => simp only [List.getElem?_toArray, List.getElem?_cons_succ, List.getElem?_cons_zero]
  case i45 => rfl
  case q45 => exact fun _ _ _ h => h
  case w45 => rfl
  case y45 => (intro w hSw; obtain ⟨k0, k1, k2, k3, k4, k5, k6, k7, k8, k9, k10, k11, k12⟩ := (HM.out.below hSw).cells; go_simp) <;> with_reducible rfl
  try simp only [Act.put, List.setIfInBounds_toArray, List.set_cons_zero, List.set_cons_succ]
  refine wpAnyH_take (i := 9) (oi := ?o46) (v := ?v46) ?i46 (by kernel_rfl) (by kernel_rfl) (by kernel_rfl) ?q46 (Or.inl ⟨?w46, ?y46⟩) (by assumption) ?r46
  case' i46 => simp only [List.getElem?_toArray, List.getElem?_cons_succ, List.getElem?_cons_zero]
  case i46 => rfl
  case q46 => exact fun _ _ _ h => h
  case w46 => rfl
  case y46 => (intro w hSw; go_simp) <;> with_reducible rfl
  try simp only [Act.put, List.setIfInBounds_toArray, List.set_cons_zero, List.set_cons_succ]
  refine wpAnyH_take (i := 10) (oi := ?o47) (v := ?v47) ?i47 (by kernel_rfl) (by kernel_rfl) (by kernel_rfl) ?q47 (Or.inl ⟨?w47, ?y47⟩) (by assumption) ?r47
  case' i47 => simp only [List.getElem?_toArray, List.getElem?_cons_succ, List.getElem?_cons_zero]
  case i47 => rfl
  case q47 => exact fun _ _ _ h => h
  case w47 => rfl
  case y47 => (intro w hSw; obtain ⟨k0, k1, k2, k3, k4, k5, k6, k7, k8, k9, k10, k11, k12⟩ := (HM.out.below hSw).cells; go_simp) <;> with_reducible rfl
  try simp only [Act.put, List.setIfInBounds_toArray, List.set_cons_zero, List.set_cons_succ]
  refine wpAnyH_take (i := 11) (oi := ?o48) (v := ?v48) ?i48 (by kernel_rfl) (by kernel_rfl) (by kernel_rfl) ?q48 (Or.inl ⟨?w48, ?y48⟩) (by assumption) ?r48
  case' i48 => simp only [List.getElem?_toArray, List.getElem?_cons_succ, List.getElem?_cons_zero]
  case i48 => rfl
  case q48 => exact fun _ _ _ h => h
  case w48 => rfl
  case y48 => (intro w hSw; go_simp) <;> with_reducible rfl
  try simp only [Act.put, List.setIfInBounds_toArray, List.set_cons_zero, List.set_cons_succ]
  refine wpAnyH_take (i := 12) (oi := ?o49) (v := ?v49) ?i49 (by kernel_rfl) (by kernel_rfl) (by kernel_rfl) ?q49 (Or.inl ⟨?w49, ?y49⟩) (by assumption) ?r49
  case' i49 => simp only [List.getElem?_toArray, List.getElem?_cons_succ, List.getElem?_cons_zero]
  case i49 => rfl
  case q49 => exact fun _ _ _ h => h
  case w49 => rfl
  case y49 => (intro w hSw; obtain ⟨k0, k1, k2, k3, k4, k5, k6, k7, k8, k9, k10, k11, k12⟩ := (HM.out.below hSw).cells; go_simp) <;> with_reducible rfl
  try simp only [Act.put, List.setIfInBounds_toArray, List.set_cons_zero, List.set_cons_succ]
  refine wpAnyH_take (i := 13) (oi := ?o50) (v := ?v50) ?i50 (by kernel_rfl) (by kernel_rfl) (by kernel_rfl) ?q50 (Or.inl ⟨?w50, ?y50⟩) (by assumption) ?r50
  case' i50 => simp only [List.getElem?_toArray, List.getElem?_cons_succ, List.getElem?_cons_zero]
  case i50 => rfl
  case q50 => exact fun _ _ _ h => h
  case w50 => rfl
  case y50 => (intro w hSw; go_simp) <;> with_reducible rfl
  try simp only [Act.put, List.setIfInBounds_toArray, List.set_cons_zero, List.set_cons_succ]
  refine wpAnyH_take (i := 14) (oi := ?o51) (v := ?v51) ?i51 (by kernel_rfl) (by kernel_rfl) (by kernel_rfl) ?q51 (Or.inl ⟨?w51, ?y51⟩) (by assumption) ?r51
  case' i51 => simp only [List.getElem?_toArray, List.getElem?_cons_succ, List.getElem?_cons_zero]
  case i51 => rfl
  case q51 => exact fun _ _ _ h => h
  case w51 => rfl
  case y51 => (intro w hSw; obtain ⟨k0, k1, k2, k3, k4, k5, k6, k7, k8, k9, k10, k11, k12⟩ := (HM.out.below hSw).cells; go_simp) <;> with_reducible rfl
  try simp only [Act.put, List.setIfInBounds_toArray, List.set_cons_zero, List.set_cons_succ]
  refine wpAnyH_take (i := 15) (oi := ?o52) (v := ?v52) ?i52 (by kernel_rfl) (by kernel_rfl) (by kernel_rfl) ?q52 (Or.inl ⟨?w52, ?y52⟩) (by assumption) ?r52
  case' i52 => simp only [List.getElem?_toArray, List.getElem?_cons_succ, List.getElem?_cons_zero]
  case i52 => rfl
  case q52 => exact fun _ _ _ h => h
  case w52 => rfl
  case y52 => (intro w hSw; go_simp) <;> with_reducible rfl
  try simp only [Act.put, List.setIfInBounds_toArray, List.set_cons_zero, List.set_cons_succ]
  refine wpAnyH_take (i := 16) (oi := ?o53) (v := ?v53) ?i53 (by kernel_rfl) (by kernel_rfl) (by kernel_rfl) ?q53 (Or.inl ⟨?w53, ?y53⟩) (by assumption) ?r53
  case' i53 => simp only [List.getElem?_toArray, List.getElem?_cons_succ, List.getElem?_cons_zero]
  case i53 => rfl
  case q53 => exact fun _ _ _ h => h
  case w53 => rfl
  case y53 => (intro w hSw; obtain ⟨k0, k1, k2, k3, k4, k5, k6, k7, k8, k9, k10, k11, k12⟩ := (HM.out.below hSw).cells; go_simp) <;> with_reducible rfl
  try simp only [Act.put, List.setIfInBounds_toArray, List.set_cons_zero, List.set_cons_succ]
  refine wpAnyH_ready (rs := [3, 17]) (by kernel_rfl) (by simp) ?_
  refine AllReadyH.cons (o := ?o64) ?i64 (fun K' hK => ?r64) (AllReadyH.cons (o := ?o65) ?i65 (fun K' hK => ?r65) AllReadyH.nil)
  case' i64 => simp only [List.getElem?_toArray, List.getElem?_cons_succ, List.getElem?_cons_zero]
  case i64 => rfl
  case' i65 => simp only [List.getElem?_toArray, List.getElem?_cons_succ, List.getElem?_cons_zero]
  case i65 => rfl
  case r64 =>
    go_simp
    go_at_call 32
    refine (HPT.out _).mono ?_
    rintro e w1 ⟨rfl, hb1⟩
    have hS1 := hHeld.trans (hb1.mono hHeld.size)
    go_wp2_with fail
    refine hK.out _ _ hS1 (fun hHeld => ?_)
    clear hK K'
    try simp only [Act.put, List.setIfInBounds_toArray, List.set_cons_zero, List.set_cons_succ]
    refine wpAnyH_take (i := 4) (oi := ?o54) (v := ?v54) ?i54 (by kernel_rfl) (by kernel_rfl) (by kernel_rfl) ?q54 (Or.inl ⟨?w54, ?y54⟩) (by assumption) ?r54
    case' i54 => simp only [List.getElem?_toArray, List.getElem?_cons_succ, List.getElem?_cons_zero]
    case i54 => rfl
    case q54 => exact fun _ _ _ h => h
    case w54 => rfl
    case y54 => (intro w hSw; go_simp) <;> with_reducible rfl
    try simp only [Act.put, List.setIfInBounds_toArray, List.set_cons_zero, List.set_cons_succ]
    refine wpAnyH_ready (rs := [17]) (by kernel_rfl) (by simp) ?_
    refine AllReadyH.cons (o := ?o58) ?i58 (fun K' hK => ?r58) AllReadyH.nil
    case' i58 => simp only [List.getElem?_toArray, List.getElem?_cons_succ, List.getElem?_cons_zero]
    case i58 => rfl
    case r58 =>
      go_simp
      have hS2 : Below wz.heap.size wz (w1.alloc (.cells #[.int .i64 (M.i 4), .int .i64 (M.i 6), .int .i64 (M.i 7), .int .i64 (M.i 8), .int .i64 (M.i 9), .int .i64 (M.i 10)] 3)) := hHeld.trans ((below_alloc _ _).mono hHeld.size)
      have hrow := Lib.hid (lit_row .i64 3 w1 [M.i 4, M.i 6, M.i 7, M.i 8, M.i 9, M.i 10] (by unfold maxLen; simp))
      refine hK.out _ _ hS2 (fun hHeld => ?_)
      clear hK K'
      try simp only [Act.put, List.setIfInBounds_toArray, List.set_cons_zero, List.set_cons_succ]
      refine wpAnyH_ready (rs := [18]) (by kernel_rfl) (by simp) ?_
      refine AllReadyH.cons (o := ?o57) ?i57 (fun K' hK => ?r57) AllReadyH.nil
      case' i57 => simp only [List.getElem?_toArray, List.getElem?_cons_succ, List.getElem?_cons_zero]
      case i57 => rfl
      case r57 =>
        go_simp
        go_at_call 30
        refine (numbers_k _ 6 6 [M.i 4, M.i 6, M.i 7, M.i 8, M.i 9, M.i 10] _ rfl hrow.out (by omega) pz HZ).mono ?_
        rintro e w3 ⟨rfl, hb3⟩
        have hS3 := hHeld.trans (hb3.mono hHeld.size)
        go_wp2_with fail
        refine hK.out _ _ hS3 (fun hHeld => ?_)
        clear hK K'
        try simp only [Act.put, List.setIfInBounds_toArray, List.set_cons_zero, List.set_cons_succ]
        refine wpAnyH_take (i := 19) (oi := ?o55) (v := ?v55) ?i55 (by kernel_rfl) (by kernel_rfl) (by kernel_rfl) ?q55 (Or.inl ⟨?w55, ?y55⟩) (by assumption) ?r55
        case' i55 => simp only [List.getElem?_toArray, List.getElem?_cons_succ, List.getElem?_cons_zero]
        case i55 => rfl
        case q55 => exact fun _ _ _ h => h
        case w55 => rfl
        case y55 => (intro w hSw; go_simp) <;> with_reducible rfl
        try simp only [Act.put, List.setIfInBounds_toArray, List.set_cons_zero, List.set_cons_succ]
        refine wpAnyH_take (i := 20) (oi := ?o56) (v := ?v56) ?i56 (by kernel_rfl) (by kernel_rfl) (by kernel_rfl) ?q56 (Or.inl ⟨?w56, ?y56⟩) (by assumption) ?r56
        case' i56 => simp only [List.getElem?_toArray, List.getElem?_cons_succ, List.getElem?_cons_zero]
        case i56 => rfl
        case q56 => exact fun _ _ _ h => h
        case w56 => rfl
        case y56 => (intro w hSw; go_simp) <;> with_reducible rfl
        try simp only [Act.put, List.setIfInBounds_toArray, List.set_cons_zero, List.set_cons_succ]
        refine wpAnyH_done (by kernel_rfl) ?_ _
        go_wp2_with fail
        go_ret
        exact ⟨retS HE.out, HBB.out.trans (hHeld.mono HBB.out.size)⟩
  case r65 =>
    go_simp
    have hS2 : Below wz.heap.size wz (wz.drew.alloc (.cells #[.int .i64 (M.i 4), .int .i64 (M.i 6), .int .i64 (M.i 7), .int .i64 (M.i 8), .int .i64 (M.i 9), .int .i64 (M.i 10)] 3)) := hHeld.trans ((below_alloc _ _).mono hHeld.size)
    have hrow := Lib.hid (lit_row .i64 3 wz.drew [M.i 4, M.i 6, M.i 7, M.i 8, M.i 9, M.i 10] (by unfold maxLen; simp))
    refine hK.out _ _ hS2 (fun hHeld => ?_)
    clear hK K'
    try simp only [Act.put, List.setIfInBounds_toArray, List.set_cons_zero, List.set_cons_succ]
    refine wpAnyH_ready (rs := [3]) (by kernel_rfl) (by simp) ?_
    refine AllReadyH.cons (o := ?o63) ?i63 (fun K' hK => ?r63) AllReadyH.nil
    case' i63 => simp only [List.getElem?_toArray, List.getElem?_cons_succ, List.getElem?_cons_zero]
    case i63 => rfl
    case r63 =>
      go_simp
      go_at_call 32
      refine (HPT.out _).mono ?_
      rintro e w1 ⟨rfl, hb1⟩
      have hrow2 := Lib.hid (hrow.out.below hb1)
      have hS1 := hHeld.trans (hb1.mono hHeld.size)
      go_wp2_with fail
      refine hK.out _ _ hS1 (fun hHeld => ?_)
      clear hK K'
      try simp only [Act.put, List.setIfInBounds_toArray, List.set_cons_zero, List.set_cons_succ]
      refine wpAnyH_take (i := 4) (oi := ?o59) (v := ?v59) ?i59 (by kernel_rfl) (by kernel_rfl) (by kernel_rfl) ?q59 (Or.inl ⟨?w59, ?y59⟩) (by assumption) ?r59
      case' i59 => simp only [List.getElem?_toArray, List.getElem?_cons_succ, List.getElem?_cons_zero]
      case i59 => rfl
      case q59 => exact fun _ _ _ h => h
      case w59 => rfl
      case y59 => (intro w hSw; go_simp) <;> with_reducible rfl
      try simp only [Act.put, List.setIfInBounds_toArray, List.set_cons_zero, List.set_cons_succ]
      refine wpAnyH_ready (rs := [18]) (by kernel_rfl) (by simp) ?_
      refine AllReadyH.cons (o := ?o62) ?i62 (fun K' hK => ?r62) AllReadyH.nil
      case' i62 => simp only [List.getElem?_toArray, List.getElem?_cons_succ, List.getElem?_cons_zero]
      case i62 => rfl
      case r62 =>
        go_simp
        go_at_call 30
        refine (numbers_k _ 6 6 [M.i 4, M.i 6, M.i 7, M.i 8, M.i 9, M.i 10] _ rfl hrow2.out (by omega) pz HZ).mono ?_
        rintro e w3 ⟨rfl, hb3⟩
        have hS3 := hHeld.trans (hb3.mono hHeld.size)
        go_wp2_with fail
        refine hK.out _ _ hS3 (fun hHeld => ?_)
        clear hK K'
        try simp only [Act.put, List.setIfInBounds_toArray, List.set_cons_zero, List.set_cons_succ]
        refine wpAnyH_take (i := 19) (oi := ?o60) (v := ?v60) ?i60 (by kernel_rfl) (by kernel_rfl) (by kernel_rfl) ?q60 (Or.inl ⟨?w60, ?y60⟩) (by assumption) ?r60
        case' i60 => simp only [List.getElem?_toArray, List.getElem?_cons_succ, List.getElem?_cons_zero]
        case i60 => rfl
        case q60 => exact fun _ _ _ h => h
        case w60 => rfl
        case y60 => (intro w hSw; go_simp) <;> with_reducible rfl
        try simp only [Act.put, List.setIfInBounds_toArray, List.set_cons_zero, List.set_cons_succ]
        refine wpAnyH_take (i := 20) (oi := ?o61) (v := ?v61) ?i61 (by kernel_rfl) (by kernel_rfl) (by kernel_rfl) ?q61 (Or.inl ⟨?w61, ?y61⟩) (by assumption) ?r61
        case' i61 => simp only [List.getElem?_toArray, List.getElem?_cons_succ, List.getElem?_cons_zero]
        case i61 => rfl
        case q61 => exact fun _ _ _ h => h
        case w61 => rfl
        case y61 => (intro w hSw; go_simp) <;> with_reducible rfl
        try simp only [Act.put, List.setIfInBounds_toArray, List.set_cons_zero, List.set_cons_succ]
        refine wpAnyH_done (by kernel_rfl) ?_ _
        go_wp2_with fail
        go_ret
        exact ⟨retS HE.out, HBB.out.trans (hHeld.mono HBB.out.size)⟩
set_option maxHeartbeats 2000000 in
set_option maxRecDepth 100000 in
theorem renc_no (M : Ms) (w : World) (hM : M.Wf) (hr : Hid (rightM M = false)) :
    Calls Try.prog 16 #[M.v] w fun e w' => e = .returned (.string ⟨#[]⟩) ∧ Below w.heap.size w w' := by
  have HWF := Lib.hid hM
  clear hM
  obtain ⟨w0, hwa⟩ : ∃ wa, wa = w.alloc (.cells M.cl 29) := ⟨_, rfl⟩
  have HM : Hid (RAt w0 w.heap.size M) := Lib.hid (by rw [hwa]; exact heap_alloc_new w _)
  have HBB : Hid (Below w.heap.size w w0) := Lib.hid (by rw [hwa]; exact below_alloc _ _)
  have HRK := Lib.hid (fun u => rright_k M u HWF.out false hr)
  unfold Ms.v at HRK ⊢
  unfold Ms.cl at hwa HRK ⊢
  go_enter Try.func16, Try.ntmps16
  obtain ⟨k0, k1, k2, k3, k4, k5, k6, k7, k8, k9, k10, k11, k12⟩ := HM.out.cells
  rw [hwa] at k0 k1 k2 k3 k4 k5 k6 k7 k8 k9 k10 k11 k12
  go_wp2_with fail
  rw [← hwa]
  clear k0 k1 k2 k3 k4 k5 k6 k7 k8 k9 k10 k11 k12
  refine (HRK.out _).mono ?_
  rintro e w1 ⟨rfl, hb1⟩
  have HB1 := Lib.hid (HBB.out.trans (hb1.mono HBB.out.size))
  clear hb1 HRK
  go_wp2_with fail
  go_ret
  exact ⟨rfl, HB1.out⟩
theorem renc_yes (M : Ms) (w : World) (hM : M.Wf) (hr : Hid (rightM M = true)) (t : ByteArray) (ht : Hid (encL (fds (M.i 0)) M (putS (u64 (M.i 0))) = t)) :
    Calls Try.prog 16 #[M.v] w fun e w' => e = .returned (.string t) ∧ Below w.heap.size w w' := by
  rcases fds_cases (M.i 0) with e | e | e | e | ⟨h1, h2, h3, h4, e⟩
  · exact renc_1 M w hM (Lib.hid e) hr t (Lib.hid (by rw [← ht.out, e]))
  · exact renc_2 M w hM (Lib.hid e) hr t (Lib.hid (by rw [← ht.out, e]))
  · exact renc_3 M w hM (Lib.hid e) hr t (Lib.hid (by rw [← ht.out, e]))
  · exact renc_4 M w hM (Lib.hid e) hr t (Lib.hid (by rw [← ht.out, e]))
  · exact absurd e (right_kind hr.out).2.2
set_option maxHeartbeats 2000000 in
set_option maxRecDepth 100000 in
theorem rnames_0 (M : Ms) (w : World) (h1 : M.i 0 ≠ 1) (h2 : M.i 0 ≠ 2) (h4 : M.i 0 ≠ 4) :
    Calls Try.prog 19 #[M.v] w fun e w' => ∃ a, e = .returned (.slice a 0 0) ∧ RowAt .i64 w' a 0 [] ∧ Below w.heap.size w w' := by
  obtain ⟨w0, hwa⟩ : ∃ wa, wa = w.alloc (.cells M.cl 29) := ⟨_, rfl⟩
  have HM : Hid (RAt w0 w.heap.size M) := Lib.hid (by rw [hwa]; exact heap_alloc_new w _)
  have HBB : Hid (Below w.heap.size w w0) := Lib.hid (by rw [hwa]; exact below_alloc _ _)
  have HS0 : Hid (w0.heap.size = w.heap.size + 1) := Lib.hid (by rw [hwa, size_alloc])
  have d1 : (M.i 0 == 1) = false := by simpa using h1
  have d2 : (M.i 0 == 2) = false := by simpa using h2
  have d4 : (M.i 0 == 4) = false := by simpa using h4
  clear h1 h2 h4
  unfold Ms.v
  unfold Ms.cl at hwa ⊢
  go_enter Try.func19, Try.ntmps19
  obtain ⟨k0, k1, k2, k3, k4, k5, k6, k7, k8, k9, k10, k11, k12⟩ := HM.out.cells
  rw [hwa] at k0 k1 k2 k3 k4 k5 k6 k7 k8 k9 k10 k11 k12
  go_wp2_with fail
  rw [← hwa]
  clear k0 k1 k2 k3 k4 k5 k6 k7 k8 k9 k10 k11 k12
  go_ret
  exact ⟨_, rfl, by have h := lit_row .i64 3 w0 [] (by unfold maxLen; simp); rw [HS0.out] at h; exact h, HBB.out.trans ((below_alloc _ _).mono HBB.out.size)⟩
set_option maxHeartbeats 2000000 in
set_option maxRecDepth 100000 in
theorem rnames_1 (M : Ms) (w : World) (hk : Hid (M.i 0 = 1)) :
    Calls Try.prog 19 #[M.v] w fun e w' => ∃ a, e = .returned (.slice a 5 5) ∧ RowAt .i64 w' a 5 [M.i 6, M.i 7, M.i 8, M.i 9, M.i 10] ∧ Below w.heap.size w w' := by
  obtain ⟨w0, hwa⟩ : ∃ wa, wa = w.alloc (.cells M.cl 29) := ⟨_, rfl⟩
  have HM : Hid (RAt w0 w.heap.size M) := Lib.hid (by rw [hwa]; exact heap_alloc_new w _)
  have HBB : Hid (Below w.heap.size w w0) := Lib.hid (by rw [hwa]; exact below_alloc _ _)
  have HS0 : Hid (w0.heap.size = w.heap.size + 1) := Lib.hid (by rw [hwa, size_alloc])
  unfold Ms.v
  unfold Ms.cl at hwa ⊢
  rw [hk.out] at hwa ⊢
  go_enter Try.func19, Try.ntmps19
  obtain ⟨k0, k1, k2, k3, k4, k5, k6, k7, k8, k9, k10, k11, k12⟩ := HM.out.cells
  rw [hk.out] at k0
  rw [hwa] at k0 k1 k2 k3 k4 k5 k6 k7 k8 k9 k10 k11 k12
  go_wp2_with fail
  rw [← hwa]
  clear k0 k1 k2 k3 k4 k5 k6 k7 k8 k9 k10 k11 k12
  go_ret
  exact ⟨_, rfl, by have h := lit_row .i64 3 w0 [M.i 6, M.i 7, M.i 8, M.i 9, M.i 10] (by unfold maxLen; simp); rw [HS0.out] at h; exact h, HBB.out.trans ((below_alloc _ _).mono HBB.out.size)⟩
set_option maxHeartbeats 2000000 in
set_option maxRecDepth 100000 in
theorem rnames_2 (M : Ms) (w : World) (hk : Hid (M.i 0 = 2)) :
    Calls Try.prog 19 #[M.v] w fun e w' => ∃ a, e = .returned (.slice a 3 3) ∧ RowAt .i64 w' a 3 [M.i 6, M.i 8, M.i 9] ∧ Below w.heap.size w w' := by
  obtain ⟨w0, hwa⟩ : ∃ wa, wa = w.alloc (.cells M.cl 29) := ⟨_, rfl⟩
  have HM : Hid (RAt w0 w.heap.size M) := Lib.hid (by rw [hwa]; exact heap_alloc_new w _)
  have HBB : Hid (Below w.heap.size w w0) := Lib.hid (by rw [hwa]; exact below_alloc _ _)
  have HS0 : Hid (w0.heap.size = w.heap.size + 1) := Lib.hid (by rw [hwa, size_alloc])
  unfold Ms.v
  unfold Ms.cl at hwa ⊢
  rw [hk.out] at hwa ⊢
  go_enter Try.func19, Try.ntmps19
  obtain ⟨k0, k1, k2, k3, k4, k5, k6, k7, k8, k9, k10, k11, k12⟩ := HM.out.cells
  rw [hk.out] at k0
  rw [hwa] at k0 k1 k2 k3 k4 k5 k6 k7 k8 k9 k10 k11 k12
  go_wp2_with fail
  rw [← hwa]
  clear k0 k1 k2 k3 k4 k5 k6 k7 k8 k9 k10 k11 k12
  go_ret
  exact ⟨_, rfl, by have h := lit_row .i64 3 w0 [M.i 6, M.i 8, M.i 9] (by unfold maxLen; simp); rw [HS0.out] at h; exact h, HBB.out.trans ((below_alloc _ _).mono HBB.out.size)⟩
set_option maxHeartbeats 2000000 in
set_option maxRecDepth 100000 in
theorem rnames_4 (M : Ms) (w : World) (hk : Hid (M.i 0 = 4)) :
    Calls Try.prog 19 #[M.v] w fun e w' => ∃ a, e = .returned (.slice a 1 1) ∧ RowAt .i64 w' a 1 [M.i 9] ∧ Below w.heap.size w w' := by
  obtain ⟨w0, hwa⟩ : ∃ wa, wa = w.alloc (.cells M.cl 29) := ⟨_, rfl⟩
  have HM : Hid (RAt w0 w.heap.size M) := Lib.hid (by rw [hwa]; exact heap_alloc_new w _)
  have HBB : Hid (Below w.heap.size w w0) := Lib.hid (by rw [hwa]; exact below_alloc _ _)
  have HS0 : Hid (w0.heap.size = w.heap.size + 1) := Lib.hid (by rw [hwa, size_alloc])
  unfold Ms.v
  unfold Ms.cl at hwa ⊢
  rw [hk.out] at hwa ⊢
  go_enter Try.func19, Try.ntmps19
  obtain ⟨k0, k1, k2, k3, k4, k5, k6, k7, k8, k9, k10, k11, k12⟩ := HM.out.cells
  rw [hk.out] at k0
  rw [hwa] at k0 k1 k2 k3 k4 k5 k6 k7 k8 k9 k10 k11 k12
  go_wp2_with fail
  rw [← hwa]
  clear k0 k1 k2 k3 k4 k5 k6 k7 k8 k9 k10 k11 k12
  go_ret
  exact ⟨_, rfl, by have h := lit_row .i64 3 w0 [M.i 9] (by unfold maxLen; simp); rw [HS0.out] at h; exact h, HBB.out.trans ((below_alloc _ _).mono HBB.out.size)⟩
/-- The document's Names: a row with the program's names. -/
theorem rnames_k (M : Ms) (w : World) :
    Calls Try.prog 19 #[M.v] w fun e w' => ∃ a n cap, e = .returned (.slice a n cap) ∧ n = (namesM M).length ∧ RowAt .i64 w' a cap (namesM M) ∧ Below w.heap.size w w' := by
  rcases fds_cases (M.i 0) with e | e | e | e | ⟨h1, h2, h3, h4, e⟩
  · have h : namesM M = [M.i 6, M.i 7, M.i 8, M.i 9, M.i 10] := by unfold namesM; rw [e]; rfl
    rw [h]; exact (rnames_1 M w (Lib.hid e)).mono fun e w' ⟨a, q1, q2, q3⟩ => ⟨a, 5, 5, q1, rfl, q2, q3⟩
  · have h : namesM M = [M.i 6, M.i 8, M.i 9] := by unfold namesM; rw [e]; rfl
    rw [h]; exact (rnames_2 M w (Lib.hid e)).mono fun e w' ⟨a, q1, q2, q3⟩ => ⟨a, 3, 3, q1, rfl, q2, q3⟩
  · have h : namesM M = [] := by unfold namesM; rw [e]; rfl
    rw [h]; exact (rnames_0 M w (by omega) (by omega) (by omega)).mono fun e w' ⟨a, q1, q2, q3⟩ => ⟨a, 0, 0, q1, rfl, q2, q3⟩
  · have h : namesM M = [M.i 9] := by unfold namesM; rw [e]; rfl
    rw [h]; exact (rnames_4 M w (Lib.hid e)).mono fun e w' ⟨a, q1, q2, q3⟩ => ⟨a, 1, 1, q1, rfl, q2, q3⟩
  · have h : namesM M = [] := by unfold namesM; rw [e]; rfl
    rw [h]; exact (rnames_0 M w h1 h2 h4).mono fun e w' ⟨a, q1, q2, q3⟩ => ⟨a, 0, 0, q1, rfl, q2, q3⟩
end Go.Proofs.Ytifpahjlmnimnaa
