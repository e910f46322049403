/- The program's Decode. -/
import Derived.Test.YtifpahjlmnimnaaMsgCn
namespace Go.Proofs.Ytifpahjlmnimnaa
open Go.RowKit
set_option linter.unusedVariables false
set_option linter.unusedSimpArgs false
set_option maxRecDepth 20000

/-- A result's cells, of a message. -/
def ZAt (w : World) (b : Nat) (t : TypeId) : Prop := w.heap[b]? = some (.cells #[.int .i64 0, .int .u64 0, .int .u64 0, .string ⟨#[]⟩, .int .i64 0, .int .i64 0, .int .i64 0, .int .i64 0, .int .i64 0, .int .i64 0, .int .i64 0, .int .u64 0, .int .u64 0] t (0, 0))
theorem ZAt.cells {w : World} {b : Nat} {t : TypeId} (h : ZAt w b t) : w.cell? ⟨b, 0, none⟩ = some (.int .i64 0) ∧ w.cell? ⟨b, 1, none⟩ = some (.int .u64 0) ∧ w.cell? ⟨b, 2, none⟩ = some (.int .u64 0) ∧ w.cell? ⟨b, 3, none⟩ = some (.string ⟨#[]⟩) ∧ w.cell? ⟨b, 4, none⟩ = some (.int .i64 0) ∧ w.cell? ⟨b, 5, none⟩ = some (.int .i64 0) ∧ w.cell? ⟨b, 6, none⟩ = some (.int .i64 0) ∧ w.cell? ⟨b, 7, none⟩ = some (.int .i64 0) ∧ w.cell? ⟨b, 8, none⟩ = some (.int .i64 0) ∧ w.cell? ⟨b, 9, none⟩ = some (.int .i64 0) ∧ w.cell? ⟨b, 10, none⟩ = some (.int .i64 0) ∧ w.cell? ⟨b, 11, none⟩ = some (.int .u64 0) ∧ w.cell? ⟨b, 12, none⟩ = some (.int .u64 0) :=
  ⟨cell_at 0 h, cell_at 1 h, cell_at 2 h, cell_at 3 h, cell_at 4 h, cell_at 5 h, cell_at 6 h, cell_at 7 h, cell_at 8 h, cell_at 9 h, cell_at 10 h, cell_at 11 h, cell_at 12 h⟩
theorem ZAt.frz {w : World} {b : Nat} {t : TypeId} (h : ZAt w b t) : w.frozen? ⟨b, 0, none⟩ = false ∧ w.frozen? ⟨b, 1, none⟩ = false ∧ w.frozen? ⟨b, 2, none⟩ = false ∧ w.frozen? ⟨b, 3, none⟩ = false ∧ w.frozen? ⟨b, 4, none⟩ = false ∧ w.frozen? ⟨b, 5, none⟩ = false ∧ w.frozen? ⟨b, 6, none⟩ = false ∧ w.frozen? ⟨b, 7, none⟩ = false ∧ w.frozen? ⟨b, 8, none⟩ = false ∧ w.frozen? ⟨b, 9, none⟩ = false ∧ w.frozen? ⟨b, 10, none⟩ = false ∧ w.frozen? ⟨b, 11, none⟩ = false ∧ w.frozen? ⟨b, 12, none⟩ = false :=
  ⟨frz_of_row 0 h, frz_of_row 1 h, frz_of_row 2 h, frz_of_row 3 h, frz_of_row 4 h, frz_of_row 5 h, frz_of_row 6 h, frz_of_row 7 h, frz_of_row 8 h, frz_of_row 9 h, frz_of_row 10 h, frz_of_row 11 h, frz_of_row 12 h⟩
theorem ZAt.below {w w' : World} {b : Nat} {t : TypeId} (h : ZAt w b t) (hb : Below w.heap.size w w') : ZAt w' b t := (hb.block _ (blk_lt h)).trans h
theorem chg13 (w : World) (b : Nat) (v0 v1 v2 v3 v4 v5 v6 v7 v8 v9 v10 v11 v12 : Value) : Chg (fun k => k = b) w (((((((((((((w.setCell ⟨b, 0, none⟩ (v0)).setCell ⟨b, 1, none⟩ (v1)).setCell ⟨b, 2, none⟩ (v2)).setCell ⟨b, 3, none⟩ (v3)).setCell ⟨b, 4, none⟩ (v4)).setCell ⟨b, 5, none⟩ (v5)).setCell ⟨b, 6, none⟩ (v6)).setCell ⟨b, 7, none⟩ (v7)).setCell ⟨b, 8, none⟩ (v8)).setCell ⟨b, 9, none⟩ (v9)).setCell ⟨b, 10, none⟩ (v10)).setCell ⟨b, 11, none⟩ (v11)).setCell ⟨b, 12, none⟩ (v12)) := by
  refine (Chg.trans (Chg.trans (Chg.trans (Chg.trans (Chg.trans (Chg.trans (Chg.trans (Chg.trans (Chg.trans (Chg.trans (Chg.trans (Chg.trans (Chg.setCell _ _ _ _) (Chg.setCell _ _ _ _)) (Chg.setCell _ _ _ _)) (Chg.setCell _ _ _ _)) (Chg.setCell _ _ _ _)) (Chg.setCell _ _ _ _)) (Chg.setCell _ _ _ _)) (Chg.setCell _ _ _ _)) (Chg.setCell _ _ _ _)) (Chg.setCell _ _ _ _)) (Chg.setCell _ _ _ _)) (Chg.setCell _ _ _ _)) (Chg.setCell _ _ _ _))
theorem zeroM_v (k : Int) : (zeroM k).v = .agg #[.int .i64 k, .int .u64 0, .int .u64 0, .string ⟨#[]⟩, .int .i64 0, .int .i64 0, .int .i64 0, .int .i64 0, .int .i64 0, .int .i64 0, .int .i64 0, .int .u64 0, .int .u64 0] := rfl
theorem retME {M : Ms} {E F : Int} {cs : Array Value} (h : M.cl = cs) (e : E = F) : Ending.returned (.tuple #[.agg cs, .int .i64 E]) = .returned (.tuple #[M.v, .int .i64 F]) := by subst h e; rfl
theorem dec_big {s : ByteArray} (h : 4096 < s.size) : decM s = (zeroM 0, 4) := by unfold decM; rw [if_pos h]
theorem dec_err {s : ByteArray} (h : ¬ 4096 < s.size) {n p e : Nat} (hg : getA s.data.toList 0 = (n, p, e)) (he : e ≠ 0) : decM s = (zeroM 0, e) := by
  unfold decM; rw [if_neg h, hg]
  split
  · rename_i q; simp at q; exact absurd q.2.2 he
  · rename_i q; simp at q; rw [q.2.2]
theorem dec_ok {s : ByteArray} (h : ¬ 4096 < s.size) {n p : Nat} (hg : getA s.data.toList 0 = (n, p, 0)) : decM s = decEnd s (rdL s (fds (IntKind.i64.wrap n)) p (zeroM (IntKind.i64.wrap n))) := by
  unfold decM; rw [if_neg h, hg]; rfl
theorem decEnd_err {s : ByteArray} {p e : Nat} {M : Ms} (he : e ≠ 0) : decEnd s (p, M, e) = (zeroM 0, e) := by
  unfold decEnd; split
  · rename_i q; simp at q; exact absurd q.2.2 he
  · rename_i q; simp at q; rw [q.2.2]
theorem zeroM_wf (k : Int) (h : (Lit.int .i64 k).wf = true) : (zeroM k).Wf := ⟨fun j hj => by
  by_cases e : j = 0
  · subst e; exact h
  · simp only [zeroM, if_neg e]; exact wf_zero _, Nat.zero_le _⟩
theorem rd_next {s : ByteArray} {f : Fd} {r : List Fd} {p : Nat} {M : Ms} (h : f.er s p = 0) : rdL s (f :: r) p M = rdL s r (f.to s p) (f.put s p M) := by rw [rdL, if_pos h]
theorem rd_stop {s : ByteArray} {f : Fd} {r : List Fd} {p : Nat} {M : Ms} (h : f.er s p ≠ 0) : rdL s (f :: r) p M = (0, M, f.er s p) := by rw [rdL, if_neg h]
theorem wrap_wf (n : Int) : (Lit.int .i64 (IntKind.i64.wrap n)).wf = true := wf_wrap _ _

set_option maxHeartbeats 2000000 in
set_option maxRecDepth 100000 in
theorem decode_big (s : ByteArray) (w : World) (hs : s.size ≤ 1000000) (h : 4096 < s.size) (M : Ms) (E : Nat) (hd : Hid (decM s = (M, E))) :
    Calls Try.prog 10 #[.string s] w fun e w' => e = .returned (.tuple #[M.v, .int .i64 E]) ∧ Below w.heap.size w w' := by
  have h1 := hd.out
  rw [dec_big h] at h1
  injection h1 with h1 h2
  subst h1 h2
  have hd1 : decide (4096 < (s.size : Int)) = true := by simp; omega
  go_enter Try.func10, Try.ntmps10
  go_wp2
  have HZ : ZAt (w.alloc (.cells #[.int .i64 0, .int .u64 0, .int .u64 0, .string ⟨#[]⟩, .int .i64 0, .int .i64 0, .int .i64 0, .int .i64 0, .int .i64 0, .int .i64 0, .int .i64 0, .int .u64 0, .int .u64 0] 24)) w.heap.size 24 := heap_alloc_new w _
  obtain ⟨c0, c1, c2, c3, c4, c5, c6, c7, c8, c9, c10, c11, c12⟩ := HZ.cells
  exact bodyPost_ret (v := .tuple #[.agg #[.int .i64 0, .int .u64 0, .int .u64 0, .string ⟨#[]⟩, .int .i64 0, .int .i64 0, .int .i64 0, .int .i64 0, .int .i64 0, .int .i64 0, .int .i64 0, .int .u64 0, .int .u64 0], .int .i64 4]) (by simp [results, Try.results10, go_sem, c0, c1, c2, c3, c4, c5, c6, c7, c8, c9, c10, c11, c12]) rfl ⟨rfl, below_alloc _ _⟩
set_option maxHeartbeats 2000000 in
set_option maxRecDepth 100000 in
theorem decode_err (s : ByteArray) (w : World) (hs : s.size ≤ 1000000) (h : ¬ 4096 < s.size) {n p e : Nat} (hg : Hid (getA s.data.toList 0 = (n, p, e))) (he : e ≠ 0) (M : Ms) (E : Nat) (hd : Hid (decM s = (M, E))) :
    Calls Try.prog 10 #[.string s] w fun e w' => e = .returned (.tuple #[M.v, .int .i64 E]) ∧ Below w.heap.size w w' := by
  have h1 := hd.out
  rw [dec_err h hg.out he] at h1
  injection h1 with h1 h2
  subst h1 h2
  have hd1 : decide (4096 < (s.size : Int)) = false := by simp; omega
  have hne : ((e : Int) != 0) = true := by simp [he]
  have hm : s.size ≤ maxLen := by unfold maxLen; omega
  have HG := Lib.hid (fun u => get_at u hm hg.out)
  clear hd he hm hg
  have HZ0 := Lib.hid (show ZAt (w.alloc (.cells #[.int .i64 0, .int .u64 0, .int .u64 0, .string ⟨#[]⟩, .int .i64 0, .int .i64 0, .int .i64 0, .int .i64 0, .int .i64 0, .int .i64 0, .int .i64 0, .int .u64 0, .int .u64 0] 24)) w.heap.size 24 from heap_alloc_new w _)
  have HBB := Lib.hid (below_alloc w (.cells #[.int .i64 0, .int .u64 0, .int .u64 0, .string ⟨#[]⟩, .int .i64 0, .int .i64 0, .int .i64 0, .int .i64 0, .int .i64 0, .int .i64 0, .int .i64 0, .int .u64 0, .int .u64 0] 24))
  go_enter Try.func10, Try.ntmps10
  go_wp2_with fail
  refine (HG.out _).mono ?_
  rintro e' w1 ⟨rfl, rfl⟩
  obtain ⟨c0, c1, c2, c3, c4, c5, c6, c7, c8, c9, c10, c11, c12⟩ := HZ0.out.cells
  go_wp2
  exact bodyPost_ret (v := .tuple #[.agg #[.int .i64 0, .int .u64 0, .int .u64 0, .string ⟨#[]⟩, .int .i64 0, .int .i64 0, .int .i64 0, .int .i64 0, .int .i64 0, .int .i64 0, .int .i64 0, .int .u64 0, .int .u64 0], .int .i64 e]) (by simp [results, Try.results10, go_sem, c0, c1, c2, c3, c4, c5, c6, c7, c8, c9, c10, c11, c12]) rfl ⟨rfl, HBB.out⟩
set_option maxHeartbeats 8000000 in
set_option maxRecDepth 100000 in
theorem decode_ok (s : ByteArray) (w : World) (hs : s.size ≤ 1000000) (h : ¬ 4096 < s.size) {n p : Nat} (hg : Hid (getA s.data.toList 0 = (n, p, 0))) (M : Ms) (E : Nat) (hd : Hid (decM s = (M, E))) :
    Calls Try.prog 10 #[.string s] w fun e w' => e = .returned (.tuple #[M.v, .int .i64 E]) ∧ Below w.heap.size w w' := by
  have hd1 : decide (4096 < (s.size : Int)) = false := by simp; omega
  have HDE := Lib.hid ((dec_ok h hg.out).symm.trans hd.out)
  have hm : s.size ≤ maxLen := by unfold maxLen; omega
  have HG := Lib.hid (fun u => get_at u hm hg.out)
  have HPS := Lib.hid (getA_bounds s 0 hg.out).2
  have HS := Lib.hid hs
  obtain ⟨k, hk⟩ : ∃ k, IntKind.i64.wrap (n : Int) = k := ⟨_, rfl⟩
  have HKW : Hid ((Lit.int .i64 k).wf = true) := Lib.hid (by rw [← hk]; exact wrap_wf _)
  rw [hk] at HDE
  clear hd hm hg hs h
  obtain ⟨R, hR⟩ : ∃ q, q = w.heap.size := ⟨_, rfl⟩
  obtain ⟨w0, hw0⟩ : ∃ wa, wa = w.alloc (.cells #[.int .i64 0, .int .u64 0, .int .u64 0, .string ⟨#[]⟩, .int .i64 0, .int .i64 0, .int .i64 0, .int .i64 0, .int .i64 0, .int .i64 0, .int .i64 0, .int .u64 0, .int .u64 0] 24) := ⟨_, rfl⟩
  have HZ0 : Hid (ZAt w0 R 24) := Lib.hid (by rw [hw0, hR]; exact heap_alloc_new w _)
  have HB0 : Hid (Below w.heap.size w w0) := Lib.hid (by rw [hw0]; exact below_alloc _ _)
  have HRW := Lib.hid hR
  go_enter Try.func10, Try.ntmps10
  go_wp2_with fail
  rw [← hw0, ← hR]
  clear hw0 hR
  refine (HG.out _).mono ?_
  rintro e' w1 ⟨rfl, rfl⟩
  clear HG
  go_wp2_with fail
  obtain ⟨q, hq⟩ : ∃ q, q = w0.heap.size := ⟨_, rfl⟩
  obtain ⟨wa, hwa⟩ : ∃ wa, wa = w0.alloc (.cells #[.int .i64 k, .int .u64 0, .int .u64 0, .string ⟨#[]⟩, .int .i64 0, .int .i64 0, .int .i64 0, .int .i64 0, .int .i64 0, .int .i64 0, .int .i64 0, .int .u64 0, .int .u64 0] 24) := ⟨_, rfl⟩
  have HM : Hid (MsgAt wa q (zeroM k)) := Lib.hid (by rw [hwa, hq]; exact heap_alloc_new w0 _)
  have HBA : Hid (Below w.heap.size w wa) := Lib.hid (by rw [hwa]; exact HB0.out.trans ((below_alloc _ _).mono HB0.out.size))
  have HZA : Hid (ZAt wa R 24) := Lib.hid (by rw [hwa]; exact HZ0.out.below (below_alloc _ _))
  have HQR : Hid (w.heap.size ≤ q ∧ R < q) := Lib.hid ⟨by rw [hq]; exact HB0.out.size, by rw [hq]; exact blk_lt HZ0.out⟩
  rw [← hwa, ← hq]
  clear hwa hq
  refine wp_region_held_drew (S := fun w => Below wa.heap.size wa w) (by kernel_rfl) (drewN_below2 (Nat.le_refl _) 1) (fun hHeld => ?_)
  refine wpAnyH_take (i := 1) (oi := ?o10) (v := ?v10) ?i10 (by kernel_rfl) (by kernel_rfl) (by kernel_rfl) ?q10 (Or.inl ⟨?w10, ?y10⟩) (by assumption) ?r10
  case' i10 => simp only [List.getElem?_toArray, List.getElem?_cons_succ, List.getElem?_cons_zero]
  case i10 => rfl
  case q10 => exact fun _ _ _ h => h
  case w10 => rfl
  case y10 => (intro w hSw; go_simp) <;> with_reducible rfl
  try simp only [Act.put, List.setIfInBounds_toArray, List.set_cons_zero, List.set_cons_succ]
  refine wpAnyH_take (i := 2) (oi := ?o11) (v := ?v11) ?i11 (by kernel_rfl) (by kernel_rfl) (by kernel_rfl) ?q11 (Or.inl ⟨?w11, ?y11⟩) (by assumption) ?r11
  case' i11 => simp only [List.getElem?_toArray, List.getElem?_cons_succ, List.getElem?_cons_zero]
  case i11 => rfl
  case q11 => exact fun _ _ _ h => h
  case w11 => rfl
  case y11 => (intro w hSw; have z0 := (HM.out.below hSw).of (j := 0) (k := .i64) ⟨by decide, rfl⟩; go_simp) <;> with_reducible rfl
  try simp only [Act.put, List.setIfInBounds_toArray, List.set_cons_zero, List.set_cons_succ]
  refine wpAnyH_take (i := 5) (oi := ?o12) (v := ?v12) ?i12 (by kernel_rfl) (by kernel_rfl) (by kernel_rfl) ?q12 (Or.inl ⟨?w12, ?y12⟩) (by assumption) ?r12
  case' i12 => simp only [List.getElem?_toArray, List.getElem?_cons_succ, List.getElem?_cons_zero]
  case i12 => rfl
  case q12 => exact fun _ _ _ h => h
  case w12 => rfl
  case y12 => (intro w hSw; go_simp) <;> with_reducible rfl
  try simp only [Act.put, List.setIfInBounds_toArray, List.set_cons_zero, List.set_cons_succ]
  refine wpAnyH_ready (rs := [0]) (by kernel_rfl) (by simp) ?_
  refine AllReadyH.cons (o := ?o13) ?i13 (fun K' hK => ?_) AllReadyH.nil
  case' i13 => simp only [List.getElem?_toArray, List.getElem?_cons_succ, List.getElem?_cons_zero]
  case i13 => rfl
  go_simp
  go_at_call 22
  refine (fieldsIn_any q _).mono ?_
  rintro e w1 ⟨A, rfl, hF⟩
  have HF := Lib.hid hF
  have HB1 := Lib.hid (hHeld.trans (hF.1.mono hHeld.size))
  have HW1 := Lib.hid hHeld.size
  clear hF
  go_wp2_with fail
  refine hK.out _ _ HB1.out (fun hHeld => ?_)
  clear hK K'
  try simp only [Act.put, List.setIfInBounds_toArray, List.set_cons_zero, List.set_cons_succ]
  refine wpAnyH_ready (rs := [3]) (by kernel_rfl) (by simp) ?_
  refine AllReadyH.cons (o := ?o14) ?i14 (fun K' hK => ?_) AllReadyH.nil
  case' i14 => simp only [List.getElem?_toArray, List.getElem?_cons_succ, List.getElem?_cons_zero]
  case i14 => rfl
  go_simp
  go_at_call 36
  refine (fields_get HF.out _).mono ?_
  rintro e w2 ⟨⟨v, rfl, hV⟩, rfl⟩
  have HV := Lib.hid hV
  clear hV
  go_wp2_with fail
  refine hK.out _ _ HB1.out (fun hHeld => ?_)
  clear hK K'
  try simp only [Act.put, List.setIfInBounds_toArray, List.set_cons_zero, List.set_cons_succ]
  have HM2 : Hid (MsgAt w2 q (zeroM k)) := Lib.hid (HM.out.below HB1.out)
  have HZ2 : Hid (ZAt w2 R 24) := Lib.hid (HZA.out.below HB1.out)
  have HB2 : Hid (Below w.heap.size w w2) := Lib.hid (HBA.out.trans (HB1.out.mono HBA.out.size))
  have HWS : Hid (w.heap.size ≤ w2.heap.size) := Lib.hid HB2.out.size
  have hfl : ∃ a n, v = .slice a n n ∧ n = (fds k).length ∧ ∀ j f r, (fds k).drop j = f :: r → ∃ b, a = some ⟨b, 0, none⟩ ∧ b ≠ q ∧ w2.heap[b]? = some (.cells (fdsV q k) 59 (0, 0)) := by
    have hqq := Nat.lt_of_lt_of_le HM.out.lt HW1.out
    rcases HV.out with ⟨e, hfn⟩ | ⟨x, n, e, hn, hn1, hx, hrow⟩
    · have hfn : fds k = [] := hfn
      exact ⟨none, 0, e, by rw [hfn]; rfl, fun j f r hd => by rw [hfn] at hd; simp at hd⟩
    · exact ⟨some ⟨x, 0, none⟩, n, e, hn, fun j f r hd => ⟨x, rfl, by omega, hrow⟩⟩
  obtain ⟨fa, fn, rfl, hfn, hfl⟩ := hfl
  have hnm : fn ≤ 8 := by rw [hfn]; exact fds_len _
  have HN := Lib.hid hfn
  have HFL := Lib.hid hfl
  clear HF HBA HM HW1 HZA HV hfn hfl HB0 HZ0
  refine wpAnyH_take (i := 4) (oi := ?o15) (v := ?v15) ?i15 (by kernel_rfl) (by kernel_rfl) (by kernel_rfl) ?q15 (Or.inl ⟨?w15, ?y15⟩) (by assumption) ?r15
  case' i15 => simp only [List.getElem?_toArray, List.getElem?_cons_succ, List.getElem?_cons_zero]
  case i15 => rfl
  case q15 => exact fun _ _ _ h => h
  case w15 => rfl
  case y15 => (intro w hSw; go_simp) <;> with_reducible rfl
  try simp only [Act.put, List.setIfInBounds_toArray, List.set_cons_zero, List.set_cons_succ]
  refine wpAnyH_done (by kernel_rfl) ?_ _
  clear hHeld HB1
  go_wp2_with fail
  go_loopw [5, 6, 9, 32] (fun a e _ i wr => ∃ (j : Nat) (N : Ms) (p : Nat), j ≤ fn ∧ i = .int .i64 j ∧ a = .int .i64 p ∧ e = .int .i64 0 ∧ Hid (p ≤ s.size) ∧ Hid (MsgAt wr q N) ∧ Hid N.Wf ∧ Hid (decEnd s (rdL s ((fds k).drop j) p N) = (M, E)) ∧ Hid (Chg (fun t => t = q) w2 wr)) (fun _ _ _ i _ => fn - (intOf i).toNat)
  case atStart => exact ⟨0, zeroM k, p, Nat.zero_le _, rfl, rfl, rfl, HPS, HM2, Lib.hid (zeroM_wf k HKW.out), Lib.hid (by rw [List.drop_zero]; exact HDE.out), Lib.hid (Chg.of_below (Below.refl _ _))⟩
  case round =>
    obtain ⟨j, N, p, hj, rfl, rfl, rfl, HP, HM3, HW3, HE, HC⟩ := hrel
    clear HDE HM2 HPS
    have HZ3 := Lib.hid (show ZAt wr R 24 from HC.out.blk HZ2.out (by have := HQR.out; omega))
    cases hd : (fds k).drop j with
    | nil =>
      have hjn : j = fn := by
        have := List.drop_eq_nil_iff.1 hd
        rw [← HN.out] at this; omega
      subst hjn
      have HE1 : Hid (decEnd s (p, N, 0) = (M, E)) := Lib.hid (by have h1 := HE.out; rw [hd] at h1; exact h1)
      have hps := HP.out
      have hsz := HS.out
      clear hd HE HFL
      by_cases hlt : p < s.size
      · have hdp : decide ((p : Int) < (s.size : Int)) = true := by simp; omega
        have hres : M.cl = #[.int .i64 0, .int .u64 0, .int .u64 0, .string ⟨#[]⟩, .int .i64 0, .int .i64 0, .int .i64 0, .int .i64 0, .int .i64 0, .int .i64 0, .int .i64 0, .int .u64 0, .int .u64 0] ∧ E = 3 := by
          have h1 := HE1.out
          have hdp' : decide (p < s.size) = true := by simpa using hlt
          simp only [decEnd, hdp', Bool.true_or, if_true] at h1
          injection h1 with h1 h2
          subst h1 h2
          exact ⟨rfl, rfl⟩
        have HRES := Lib.hid hres
        obtain ⟨c0, c1, c2, c3, c4, c5, c6, c7, c8, c9, c10, c11, c12⟩ := HZ3.out.cells
        obtain ⟨f0, f1, f2, f3, f4, f5, f6, f7, f8, f9, f10, f11, f12⟩ := HZ3.out.frz
        have hdn : decide (p < s.size) = true := by simpa using hlt
        clear HE1 hres
        go_wp2
        exact bodyPost_ret (v := .tuple #[.agg #[.int .i64 0, .int .u64 0, .int .u64 0, .string ⟨#[]⟩, .int .i64 0, .int .i64 0, .int .i64 0, .int .i64 0, .int .i64 0, .int .i64 0, .int .i64 0, .int .u64 0, .int .u64 0], .int .i64 3]) (by simp [results, Try.results10, go_sem, c0, c1, c2, c3, c4, c5, c6, c7, c8, c9, c10, c11, c12]) rfl
          ⟨retME HRES.out.1 (by rw [HRES.out.2]; rfl), Chg.out (Chg.out HB2.out HC.out (by have := HQR.out; omega) HWS.out) (chg13 _ _ _ _ _ _ _ _ _ _ _ _ _ _ _) (by have := HRW.out; omega) (Nat.le_trans HWS.out HC.out.size)⟩
      · have hdp : decide ((p : Int) < (s.size : Int)) = false := by simp; omega
        have hdp' : decide (p < s.size) = false := by simpa using hlt
        obtain ⟨k0, k1, k2, k3, k4, k5, k6, k7, k8, k9, k10, k11, k12⟩ := HM3.out.cells
        cases hr : rightM N with
        | false =>
          have HRK := Lib.hid (fun u => right_k N u HW3.out false (Lib.hid hr))
          have hres : M.cl = #[.int .i64 0, .int .u64 0, .int .u64 0, .string ⟨#[]⟩, .int .i64 0, .int .i64 0, .int .i64 0, .int .i64 0, .int .i64 0, .int .i64 0, .int .i64 0, .int .u64 0, .int .u64 0] ∧ E = 3 := by
            have h1 := HE1.out
            simp only [decEnd, hdp', hr, Bool.not_false, Bool.or_true, if_true] at h1
            injection h1 with h1 h2
            subst h1 h2
            exact ⟨rfl, rfl⟩
          have HRES := Lib.hid hres
          clear HE1 hres hr
          unfold Ms.v Ms.cl at HRK
          go_wp2_with fail
          refine (HRK.out _).mono ?_
          rintro e w4 ⟨rfl, hb4⟩
          have HZ4 := Lib.hid (HZ3.out.below hb4)
          have HC4 := Lib.hid (HC.out.trans (Chg.of_below hb4))
          obtain ⟨c0, c1, c2, c3, c4, c5, c6, c7, c8, c9, c10, c11, c12⟩ := HZ4.out.cells
          obtain ⟨f0, f1, f2, f3, f4, f5, f6, f7, f8, f9, f10, f11, f12⟩ := HZ4.out.frz
          clear hb4 HRK k0 k1 k2 k3 k4 k5 k6 k7 k8 k9 k10 k11 k12
          go_wp2
          exact bodyPost_ret (v := .tuple #[.agg #[.int .i64 0, .int .u64 0, .int .u64 0, .string ⟨#[]⟩, .int .i64 0, .int .i64 0, .int .i64 0, .int .i64 0, .int .i64 0, .int .i64 0, .int .i64 0, .int .u64 0, .int .u64 0], .int .i64 3]) (by simp [results, Try.results10, go_sem, c0, c1, c2, c3, c4, c5, c6, c7, c8, c9, c10, c11, c12]) rfl
            ⟨retME HRES.out.1 (by rw [HRES.out.2]; rfl), Chg.out (Chg.out HB2.out HC4.out (by have := HQR.out; omega) HWS.out) (chg13 _ _ _ _ _ _ _ _ _ _ _ _ _ _ _) (by have := HRW.out; omega) (Nat.le_trans HWS.out HC4.out.size)⟩
        | true =>
          have HRK := Lib.hid (fun u => right_k N u HW3.out true (Lib.hid hr))
          have hres : M = N ∧ E = 0 := by
            have h1 := HE1.out
            simp only [decEnd, hdp', hr, Bool.not_true, Bool.or_false, Bool.false_eq_true, if_false] at h1
            injection h1 with h1 h2
            exact ⟨h1.symm, h2.symm⟩
          have HRES := Lib.hid hres
          clear HE1 hres hr
          unfold Ms.v Ms.cl at HRK
          go_wp2_with fail
          refine (HRK.out _).mono ?_
          rintro e w4 ⟨rfl, hb4⟩
          have HZ4 := Lib.hid (HZ3.out.below hb4)
          have HM4 := Lib.hid (HM3.out.below hb4)
          have HC4 := Lib.hid (HC.out.trans (Chg.of_below hb4))
          clear k0 k1 k2 k3 k4 k5 k6 k7 k8 k9 k10 k11 k12
          obtain ⟨c0, c1, c2, c3, c4, c5, c6, c7, c8, c9, c10, c11, c12⟩ := HZ4.out.cells
          obtain ⟨f0, f1, f2, f3, f4, f5, f6, f7, f8, f9, f10, f11, f12⟩ := HZ4.out.frz
          obtain ⟨k0, k1, k2, k3, k4, k5, k6, k7, k8, k9, k10, k11, k12⟩ := HM4.out.cells
          clear hb4 HRK
          go_wp2
          exact bodyPost_ret (v := .tuple #[.agg #[.int .i64 (N.i 0), .int .u64 (N.i 1), .int .u64 (N.i 2), .string N.s, .int .i64 (N.i 4), .int .i64 (N.i 5), .int .i64 (N.i 6), .int .i64 (N.i 7), .int .i64 (N.i 8), .int .i64 (N.i 9), .int .i64 (N.i 10), .int .u64 (N.i 11), .int .u64 (N.i 12)], .int .i64 0]) (by simp [results, Try.results10, go_sem, c0, c1, c2, c3, c4, c5, c6, c7, c8, c9, c10, c11, c12]) rfl
            ⟨retME (by rw [HRES.out.1]; rfl) (by rw [HRES.out.2]; rfl), Chg.out (Chg.out HB2.out HC4.out (by have := HQR.out; omega) HWS.out) (chg13 _ _ _ _ _ _ _ _ _ _ _ _ _ _ _) (by have := HRW.out; omega) (Nat.le_trans HWS.out HC4.out.size)⟩
    | cons f r =>
      obtain ⟨hd2, hlt, hfit⟩ := drop_next hd
      rw [← HN.out] at hlt
      have hjlt : (j : Int) < (fn : Int) := by omega
      obtain ⟨x, rfl, hxq, hrow⟩ := HFL.out j f r hd
      have hcell := fld_cell (w := wr) (HC.out.blk hrow hxq) hd
      have hinv := meth_read f q
      have hinv2 := call_read f q s p
      have HFT := Lib.hid hfit
      by_cases he : f.er s p = 0
      · have HE2 : Hid (decEnd s (rdL s ((fds k).drop (j + 1)) (f.to s p) (f.put s p N)) = (M, E)) := Lib.hid (by rw [hd2, ← rd_next (r := r) he, ← hd]; exact HE.out)
        have HRD := Lib.hid (Fd.read_ok f hfit HM3.out s p HS.out (Lib.hid he) (f.to s p) (Lib.hid rfl))
        have HTO := Lib.hid (f.to_le s p)
        have HW4 := Lib.hid (f.put_wf hfit HW3.out s HS.out p)
        clear hd hd2 hfit HE he hrow hxq
        go_wp2_with fail
        refine HRD.out.mono ?_
        rintro e w4 ⟨rfl, hc4, hm4⟩
        have HM4 := Lib.hid hm4
        have HC4 := Lib.hid (HC.out.trans hc4)
        clear hc4 hm4 HRD HC HM3 hcell hinv hinv2
        go_wp2_with fail
        go_roundw
        case rel => exact ⟨j + 1, f.put s p N, f.to s p, by omega, by go_num, rfl, rfl, HTO, HM4, HW4, HE2, HC4⟩
        case measure => simp [intOf]; omega
      · have hres : M.cl = #[.int .i64 0, .int .u64 0, .int .u64 0, .string ⟨#[]⟩, .int .i64 0, .int .i64 0, .int .i64 0, .int .i64 0, .int .i64 0, .int .i64 0, .int .i64 0, .int .u64 0, .int .u64 0] ∧ E = f.er s p := by
          have h1 := HE.out
          rw [hd, rd_stop he, decEnd_err he] at h1
          injection h1 with h1 h2
          subst h1
          exact ⟨rfl, h2.symm⟩
        have HRD := Lib.hid (fun u : World => Fd.read_err (w := u) (q := q) f hfit s p HS.out (f.er s p) (Lib.hid rfl) (Lib.hid he))
        have hne : ((f.er s p : Int) != 0) = true := by simp [he]
        have HRES := Lib.hid hres
        clear hd hd2 hfit HE he hres hrow hxq
        generalize f.er s p = er at HRD hne HRES
        go_wp2_with fail
        refine (HRD.out _).mono ?_
        rintro e w4 ⟨rfl, hb4⟩
        have HZ4 := Lib.hid (HZ3.out.below hb4)
        have HC4 := Lib.hid (HC.out.trans (Chg.of_below hb4))
        obtain ⟨c0, c1, c2, c3, c4, c5, c6, c7, c8, c9, c10, c11, c12⟩ := HZ4.out.cells
        obtain ⟨f0, f1, f2, f3, f4, f5, f6, f7, f8, f9, f10, f11, f12⟩ := HZ4.out.frz
        clear hb4 HRD hcell hinv hinv2
        go_wp2
        exact bodyPost_ret (v := .tuple #[.agg #[.int .i64 0, .int .u64 0, .int .u64 0, .string ⟨#[]⟩, .int .i64 0, .int .i64 0, .int .i64 0, .int .i64 0, .int .i64 0, .int .i64 0, .int .i64 0, .int .u64 0, .int .u64 0], .int .i64 er]) (by simp [results, Try.results10, go_sem, c0, c1, c2, c3, c4, c5, c6, c7, c8, c9, c10, c11, c12]) rfl
          ⟨retME HRES.out.1 (by rw [HRES.out.2]), Chg.out (Chg.out HB2.out HC4.out (by have := HQR.out; omega) HWS.out) (chg13 _ _ _ _ _ _ _ _ _ _ _ _ _ _ _) (by have := HRW.out; omega) (Nat.le_trans HWS.out HC4.out.size)⟩
theorem decode_k (s : ByteArray) (w : World) (hs : s.size ≤ 1000000) (M : Ms) (E : Nat) (hd : Hid (decM s = (M, E))) :
    Calls Try.prog 10 #[.string s] w fun e w' => e = .returned (.tuple #[M.v, .int .i64 E]) ∧ Below w.heap.size w w' := by
  by_cases h : 4096 < s.size
  · exact decode_big s w hs h M E hd
  · obtain ⟨n, p, e, hg⟩ : ∃ n p e, getA s.data.toList 0 = (n, p, e) := ⟨_, _, _, rfl⟩
    by_cases he : e = 0
    · subst he; exact decode_ok s w hs h (Lib.hid hg) M E hd
    · exact decode_err s w hs h (Lib.hid hg) he M E hd
end Go.Proofs.Ytifpahjlmnimnaa
